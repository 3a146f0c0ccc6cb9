/- Leaf PLeaf PName Ob Know Shelf Qq Sign -/
import Derived.Test.YthcfianhdkolhaaGreatDoorSynDig
import Derived.Test.YthcfianhdkolhaaGreatDoorProg
import Derived.WalkKit
import Derived.WalkSpells
import Derived.Outline
import Derived.LoopTactic
import Derived.Below
import Derived.BigQuiet
import Derived.Carry
import Derived.Laws.Rows
import Derived.Deep.AppendLies
import Derived.Deep.QuietTactic
import Derived.WalkLawsBesides
import Derived.Deep.RegionHeldLaw
import Derived.Shelf.Strings.Builder1
import Derived.Shelf.Strings.Builder2
import Derived.Shelf.Strings.OnBuilder
import Derived.Shelf.Small.Wraps
import Derived.Shelf.Strings.BuilderF
import Derived.Shelf.Strings.BuilderK
import Derived.Shelf.Strconv.Itoa0
import Derived.Shelf.Strconv.Itoa1
import Derived.Shelf.LaysM
import Derived.Shelf.Strconv.Itoa2
import Derived.Shelf.Strconv.Itoa3
import Derived.Shelf.Strconv.Itoa4
import Derived.Shelf.Strconv.ParseIntEmpty
import Derived.Shelf.Strconv.Clone
import Derived.Shelf.Strconv.SyntaxError
import Derived.Shelf.LaysC
import Derived.Shelf.Strconv.ToError
import Derived.Shelf.Strconv.Lower
import Derived.Shelf.Strconv.ParseUint10
import Derived.Shelf.Strconv.ParseUint10Empty
import Derived.Shelf.Strconv.ParseUint10Any
import Derived.Shelf.Strconv.ParseInt10
import Derived.Shelf.Strconv.RangeError
import Derived.Shelf.Strconv.ToErrorRange
import Derived.Shelf.Strconv.ParseUintEmpty
import Derived.Shelf.Strconv.ParseUint10b64
import Derived.Shelf.Strconv.ParseUint10b32
import Derived.Shelf.Strconv.ParseUint10b16
import Derived.Shelf.Strconv.ParseUint10b8
import Derived.Shelf.Strconv.ParseUint10At
import Derived.Shelf.Strconv.ParseInt10At64
import Derived.Shelf.Strconv.ParseInt10At32
import Derived.Shelf.Strconv.ParseInt10At16
import Derived.Shelf.Strconv.ParseInt10At8
import Derived.Shelf.Strconv.ParseInt10All
import Derived.Shelf.Strconv.ParseIntPublic10
import Derived.Shelf.Strings.Search1
import Derived.Shelf.Strings.Search2
import Derived.Shelf.Strings.Search3
import Derived.Shelf.Strings.Shaped
import Derived.Shelf.Strings.Prefix
namespace Go.Proofs.YthcfianhdkolhaaGreatDoor.T
open Go.RowKit Go.Proofs.YthcfianhdkolhaaGreatDoor.S
set_option maxRecDepth 100000
set_option maxHeartbeats 2000000
set_option linter.unusedVariables false
set_option linter.unusedSimpArgs false
def bytes (s:ByteArray):List UInt8:=s.data.toList
theorem hide {p:Prop} (h:p):Hid p:=h

theorem letter_any (c:Nat) (w:World) (hc:c<256):Calls Tryz.prog 24 #[.int .u8 c] w fun e w'=>e=.returned (.bool (letB c))∧w'=w:=by
 have key:∀ b1 b2 b3 b4,decide (97≤c)=b1→decide (c≤122)=b2→decide (65≤c)=b3→decide (c≤90)=b4→letB c=((b1 && b2) || (b3 && b4)):=fun _ _ _ _ h1 h2 h3 h4=>by unfold letB;rw [h1,h2,h3,h4]
 by_cases a1:97≤c
 ·by_cases a2:c≤122
  ·rw [key true true _ _ (decide_eq_true a1) (decide_eq_true a2) rfl rfl]
   have d1:(97:Int)≤c:=by omega
   have d2:(c:Int)≤122:=by omega
   go_enter Tryz.func24,Tryz.ntmps24
   go_wp2_with fail
   go_ret
   exact ⟨rfl,rfl⟩
  ·rw [key true false true false (decide_eq_true a1) (decide_eq_false a2) (decide_eq_true (by omega)) (decide_eq_false (by omega))]
   have d1:(97:Int)≤c:=by omega
   have d2:¬ (c:Int)≤122:=by omega
   have d3:(65:Int)≤c:=by omega
   have d4:¬ (c:Int)≤90:=by omega
   go_enter Tryz.func24,Tryz.ntmps24
   go_wp2_with fail
   go_ret
   exact ⟨rfl,rfl⟩
 ·by_cases a3:65≤c
  ·have d1:¬ (97:Int)≤c:=by omega
   have d3:(65:Int)≤c:=by omega
   by_cases a4:c≤90
   ·rw [key false true true true (decide_eq_false a1) (decide_eq_true (by omega)) (decide_eq_true a3) (decide_eq_true a4)]
    have d4:(c:Int)≤90:=by omega
    go_enter Tryz.func24,Tryz.ntmps24
    go_wp2_with fail
    go_ret
    exact ⟨rfl,rfl⟩
   ·rw [key false true true false (decide_eq_false a1) (decide_eq_true (by omega)) (decide_eq_true a3) (decide_eq_false a4)]
    have d4:¬ (c:Int)≤90:=by omega
    go_enter Tryz.func24,Tryz.ntmps24
    go_wp2_with fail
    go_ret
    exact ⟨rfl,rfl⟩
  ·rw [key false true false true (decide_eq_false a1) (decide_eq_true (by omega)) (decide_eq_false a3) (decide_eq_true (by omega))]
   have d1:¬ (97:Int)≤c:=by omega
   have d3:¬ (65:Int)≤c:=by omega
   go_enter Tryz.func24,Tryz.ntmps24
   go_wp2_with fail
   go_ret
   exact ⟨rfl,rfl⟩
theorem digit_any (c:Nat) (w:World) (hc:c<256):Calls Tryz.prog 25 #[.int .u8 c] w fun e w'=>e=.returned (.bool (digB c))∧w'=w:=by
 have key:∀ b1 b2,decide (48≤c)=b1→decide (c≤57)=b2→digB c=(b1 && b2):=fun _ _ h1 h2=>by unfold digB;rw [h1,h2]
 by_cases a1:48≤c
 ·have d1:(48:Int)≤c:=by omega
  by_cases a2:c≤57
  ·rw [key true true (decide_eq_true a1) (decide_eq_true a2)]
   have d2:(c:Int)≤57:=by omega
   go_enter Tryz.func25,Tryz.ntmps25
   go_wp2_with fail
   go_ret
   exact ⟨rfl,rfl⟩
  ·rw [key true false (decide_eq_true a1) (decide_eq_false a2)]
   have d2:¬ (c:Int)≤57:=by omega
   go_enter Tryz.func25,Tryz.ntmps25
   go_wp2_with fail
   go_ret
   exact ⟨rfl,rfl⟩
 ·rw [key false true (decide_eq_false a1) (decide_eq_true (by omega))]
  have d1:¬ (48:Int)≤c:=by omega
  go_enter Tryz.func25,Tryz.ntmps25
  go_wp2_with fail
  go_ret
  exact ⟨rfl,rfl⟩
def Strs (w:World) (na:Option Addr) (nn:Nat) (names:Nat→ByteArray):Prop:=0<nn→∃ b o,na=some ⟨b,o,none⟩∧b<w.heap.size∧∀ j,j<nn→w.cell? ⟨b,o+j,none⟩=some (.string (names j))
theorem str_eq (a b:ByteArray):(a.toList == b.toList)=decide (a=b):=by
 by_cases h:a=b
 ·subst h;simp
 ·rw [decide_eq_false h]
  simp only [ByteArray.toList_eq,beq_eq_false_iff_ne,ne_eq]
  intro e
  exact h (ByteArray.ext (Array.toList_inj.1 e))
theorem any_upto {p:Nat→Bool} {n:Nat} (h:∀ j,j<n→p j=false):(List.range n).any p=false:=by simpa using h
theorem any_at {p:Nat→Bool} {n k:Nat} (hk:k<n) (h:p k=true):(List.range n).any p=true:=by simpa using ⟨k,hk,h⟩
theorem among_any (na:Option Addr) (nn nc:Nat) (names:Nat→ByteArray) (s:ByteArray) (w:World) (hn:nn≤1000000) (hs:Strs w na nn names):
  Calls Tryz.prog 99 #[.slice na nn nc,.string s] w fun e w'=>e=.returned (.bool ((List.range nn).any fun j=>decide (names j=s)))∧w'=w:=by
 go_enter Tryz.func99,Tryz.ntmps99
 go_wp2_with fail
 go_loopw [5] (fun i wr=>∃ k:Nat,k≤nn∧i=.int .i64 k∧wr=w∧Hid (∀ j,j<k→decide (names j=s)=false)) (fun i _=>nn - (intOf i).toNat)
 case atStart=>exact ⟨0,Nat.zero_le _,rfl,rfl,fun j hj=>by omega⟩
 case round=>
  obtain ⟨k,hk,rfl,rfl,HK⟩:=hrel
  by_cases hlt:k<nn
  ·have hlt':(k:Int)<nn:=by omega
   have hidx:(0:Int)≤k∧(k:Int)<nn:=by omega
   obtain ⟨b,o,rfl,hb,hc⟩:=hs (by omega)
   have r1:=hc k hlt
   have HC:=hide hc
   clear hc hs
   by_cases he:names k=s
   ·have h1:((names k).toList == s.toList)=true:=by rw [str_eq,decide_eq_true he]
    go_wp2_with fail
    go_ret
    exact ⟨by rw [any_at hlt (decide_eq_true he)];rfl,rfl⟩
   ·have h1:((names k).toList == s.toList)=false:=by rw [str_eq,decide_eq_false he]
    have HK1:Hid (∀ j,j<k+1→decide (names j=s)=false):=fun j hj=>by
     by_cases e:j=k
     ·subst e;exact decide_eq_false he
     ·exact HK.out j (by omega)
    go_wp2_with fail
    go_roundw
    case rel=>exact ⟨k+1,by omega,by go_num,trivial,HK1⟩
    case measure=>simp [intOf];omega
  ·have hkn:k=nn:=by omega
   subst hkn
   have hlt':¬ (k:Int)<k:=by omega
   go_wp2_with fail
   go_ret
   exact ⟨by rw [any_upto HK.out];rfl,rfl⟩
def resN (j:Nat):ByteArray:=⟨(reserved.getD j []).toArray⟩
theorem contains_at (l:List (List UInt8)) (s:ByteArray):((List.range l.length).any fun j=>decide ((⟨(l.getD j []).toArray⟩:ByteArray)=s))=l.contains (bytes s):=by
 rw [Bool.eq_iff_iff]
 simp only [List.any_eq_true,List.mem_range,decide_eq_true_eq,List.contains_iff_mem]
 constructor
 ·rintro ⟨j,hj,e⟩
  subst e
  simp [bytes,List.getD_eq_getElem?_getD,hj]
 ·intro h
  obtain ⟨j,hj,e⟩:=List.mem_iff_getElem.1 h
  refine ⟨j,hj,?_⟩
  apply ByteArray.ext
  apply Array.toList_inj.1
  simp [List.getD_eq_getElem?_getD,hj,e,bytes]
theorem reserved_at (s:ByteArray):((List.range 14).any fun j=>decide (resN j=s))=reserved.contains (bytes s):=contains_at reserved s
theorem reserved_any (w:World):Calls Tryz.prog 100 #[] w fun e w'=>∃ na,e=.returned (.slice na 14 14)∧Strs w' na 14 resN∧Below w.heap.size w w':=by
 go_enter Tryz.func100,Tryz.ntmps100
 go_wp2_with fail
 go_ret
 refine ⟨_,rfl,fun _=>⟨w.heap.size,0,rfl,by simp,fun j hj=>?_⟩,(Below.refl _ _).alloc (Nat.le_refl _) _⟩
 rw [World.cell?_alloc_at _ _ _ _ rfl,Nat.zero_add]
 have:j=0∨j=1∨j=2∨j=3∨j=4∨j=5∨j=6∨j=7∨j=8∨j=9∨j=10∨j=11∨j=12∨j=13:=by omega
 rcases this with rfl|rfl|rfl|rfl|rfl|rfl|rfl|rfl|rfl|rfl|rfl|rfl|rfl|rfl<;>rfl
theorem name_any (s:ByteArray) (w:World) (hs:s.size≤maxLen):Calls Tryz.prog 71 #[.string s] w fun e w'=>e=.returned (.bool (nameB (bytes s)))∧Below w.heap.size w w':=by
 have hm:maxLen=9223372036854775807:=rfl
 have hl:(bytes s).length=s.size:=rfl
 by_cases a1:s.size<1
 ·have:nameB (bytes s)=false:=by unfold nameB;rw [hl,decide_eq_false (by omega)];rfl
  rw [this]
  have d1:(s.size:Int)<1:=by omega
  go_enter Tryz.func71,Tryz.ntmps71
  go_wp2_with fail
  go_ret
  exact ⟨rfl,Below.refl _ _⟩
 have d1:¬ (s.size:Int)<1:=by omega
 by_cases a2:16<s.size
 ·have:nameB (bytes s)=false:=by unfold nameB;rw [hl,decide_eq_true (show 1≤s.size by omega),decide_eq_false (show ¬ s.size≤16 by omega)];rfl
  rw [this]
  have d2:(16:Int)<s.size:=by omega
  go_enter Tryz.func71,Tryz.ntmps71
  go_wp2_with fail
  go_ret
  exact ⟨rfl,Below.refl _ _⟩
 have d2:¬ (16:Int)<s.size:=by omega
 go_enter Tryz.func71,Tryz.ntmps71
 go_wp2_with fail
 go_loopw [3] (fun i wr=>∃ k:Nat,k≤s.size∧i=.int .i64 k∧wr=w∧Hid (∀ j,j<k→signB (bytes s) j=true)) (fun i _=>s.size - (intOf i).toNat)
 case atStart=>exact ⟨0,Nat.zero_le _,rfl,rfl,fun j hj=>by omega⟩
 case round=>
  obtain ⟨k,hk,rfl,rfl,HK⟩:=hrel
  by_cases hlt:k<s.size
  ·have hlt':(k:Int)<s.size:=by omega
   have hidx:(0:Int)≤k∧(k:Int)<s.size:=by omega
   have hb:s[k].toNat<256:=UInt8.toNat_lt _
   have hsig:signB (bytes s) k=(letB s[k].toNat || (decide (k≠0) && (digB s[k].toNat || decide (s[k].toNat=95)))):=by
    have e:(bytes s)[k]?=some s[k]:=by
     show s.data.toList[k]?=_
     rw [Array.getElem?_toList]
     exact Array.getElem?_eq_getElem hlt
    unfold signB
    rw [e]
   have HE:Hid (signB (bytes s) k=true→∀ j,j<k+1→signB (bytes s) j=true):=fun h j hj=>by
    by_cases e:j=k
    ·subst e;exact h
    ·exact HK.out j (by omega)
   have HF:Hid (signB (bytes s) k=false→nameB (bytes s)=false):=fun h=>by
    unfold nameB
    have:((List.range (bytes s).length).all fun i=>signB (bytes s) i)=false:=by
     rw [Bool.eq_false_iff]
     intro e
     rw [List.all_eq_true] at e
     have:=e k (by rw [List.mem_range];exact hlt)
     rw [h] at this
     cases this
    rw [this]
    simp
   have hlet:=fun w'=>letter_any s[k].toNat w' hb
   have hdig:=fun w'=>digit_any s[k].toNat w' hb
   cases hL:letB s[k].toNat with
   | true=>
    rw [hL] at hlet hsig
    go_wp2_with fail
    go_at_call 24
    refine (hlet _).mono ?_
    rintro e w1 ⟨rfl,rfl⟩
    go_wp2_with fail
    go_roundw
    case rel=>exact ⟨k+1,by omega,by go_num,trivial,HE.out (by rw [hsig];rfl)⟩
    case measure=>simp [intOf];omega
   | false=>
    rw [hL] at hlet hsig
    by_cases k0:k=0
    ·subst k0
     go_wp2_with fail
     go_at_call 24
     refine (hlet _).mono ?_
     rintro e w1 ⟨rfl,rfl⟩
     go_wp2_with fail
     go_ret
     exact ⟨by rw [HF.out (by rw [hsig];rfl)];rfl,Below.refl _ _⟩
    ·have k0':((k:Int) == 0)=false:=by simp;omega
     have k1:¬ (k:Int)=0:=by omega
     cases hD:digB s[k].toNat with
     | true=>
      rw [hD] at hdig hsig
      go_wp2_with fail
      go_at_call 24
      refine (hlet _).mono ?_
      rintro e w1 ⟨rfl,rfl⟩
      go_wp2_with fail
      go_at_call 25
      refine (hdig _).mono ?_
      rintro e w1 ⟨rfl,rfl⟩
      go_wp2_with fail
      go_roundw
      case rel=>exact ⟨k+1,by omega,by go_num,trivial,HE.out (by rw [hsig];simp [k0])⟩
      case measure=>simp [intOf];omega
     | false=>
      rw [hD] at hdig hsig
      by_cases u:s[k].toNat=95
      ·have u1:((s[k].toNat:Int) == 95)=true:=by simp;omega
       have u3:((s[k].toNat:Int) != 95)=false:=by simp;omega
       have HU:=hide u
       clear u
       go_wp2_with fail
       go_at_call 24
       refine (hlet _).mono ?_
       rintro e w1 ⟨rfl,rfl⟩
       go_wp2_with fail
       go_at_call 25
       refine (hdig _).mono ?_
       rintro e w1 ⟨rfl,rfl⟩
       go_wp2_with fail
       go_roundw
       case rel=>exact ⟨k+1,by omega,by go_num,trivial,HE.out (by rw [hsig];simp [k0,HU.out])⟩
       case measure=>simp [intOf];omega
      ·have u1:((s[k].toNat:Int) == 95)=false:=by simp;omega
       have u3:((s[k].toNat:Int) != 95)=true:=by simp;omega
       go_wp2_with fail
       go_at_call 24
       refine (hlet _).mono ?_
       rintro e w1 ⟨rfl,rfl⟩
       go_wp2_with fail
       go_at_call 25
       refine (hdig _).mono ?_
       rintro e w1 ⟨rfl,rfl⟩
       go_wp2_with fail
       go_ret
       exact ⟨by rw [HF.out (by rw [hsig];simp [k0,u])];rfl,Below.refl _ _⟩
  ·have hkn:k=s.size:=by omega
   subst hkn
   have hlt':¬ (s.size:Int)<s.size:=by omega
   obtain ⟨rb,hrb⟩:∃ rb,rb=reserved.contains (bytes s):=⟨_,rfl⟩
   have HRB:=hide hrb
   clear hrb
   have HN:Hid (nameB (bytes s)=!rb):=by
    show _=_
    unfold nameB
    rw [HRB.out]
    rw [hl,decide_eq_true (show 1≤s.size by omega),decide_eq_true (show s.size≤16 by omega),(List.all_eq_true).2 (fun i hi=>HK.out i (List.mem_range.1 hi))]
    rfl
   go_wp2_with fail
   go_at_call 100
   refine (reserved_any _).mono ?_
   rintro e w1 ⟨na,rfl,hst,hb1⟩
   have ham:=among_any na 14 14 resN s w1 (by omega) hst
   rw [reserved_at,← HRB.out] at ham
   have HB1:=hide hb1
   clear hb1 hst
   go_wp2_with fail
   go_at_call 99
   refine ham.mono ?_
   rintro e w2 ⟨rfl,rfl⟩
   go_wp2_with fail
   go_ret
   exact ⟨by rw [HN.out];rfl,HB1.out⟩
theorem pletter_any (c:Nat) (w:World) (hc:c<256):Calls Tryz.prog 42 #[.int .u8 c] w fun e w'=>e=.returned (.bool (letB c))∧w'=w:=by
 have key:∀ b1 b2 b3 b4,decide (97≤c)=b1→decide (c≤122)=b2→decide (65≤c)=b3→decide (c≤90)=b4→letB c=((b1 && b2) || (b3 && b4)):=fun _ _ _ _ h1 h2 h3 h4=>by unfold letB;rw [h1,h2,h3,h4]
 by_cases a1:97≤c
 ·by_cases a2:c≤122
  ·rw [key true true _ _ (decide_eq_true a1) (decide_eq_true a2) rfl rfl]
   have d1:(97:Int)≤c:=by omega
   have d2:(c:Int)≤122:=by omega
   go_enter Tryz.func42,Tryz.ntmps42
   go_wp2_with fail
   go_ret
   exact ⟨rfl,rfl⟩
  ·rw [key true false true false (decide_eq_true a1) (decide_eq_false a2) (decide_eq_true (by omega)) (decide_eq_false (by omega))]
   have d1:(97:Int)≤c:=by omega
   have d2:¬ (c:Int)≤122:=by omega
   have d3:(65:Int)≤c:=by omega
   have d4:¬ (c:Int)≤90:=by omega
   go_enter Tryz.func42,Tryz.ntmps42
   go_wp2_with fail
   go_ret
   exact ⟨rfl,rfl⟩
 ·by_cases a3:65≤c
  ·have d1:¬ (97:Int)≤c:=by omega
   have d3:(65:Int)≤c:=by omega
   by_cases a4:c≤90
   ·rw [key false true true true (decide_eq_false a1) (decide_eq_true (by omega)) (decide_eq_true a3) (decide_eq_true a4)]
    have d4:(c:Int)≤90:=by omega
    go_enter Tryz.func42,Tryz.ntmps42
    go_wp2_with fail
    go_ret
    exact ⟨rfl,rfl⟩
   ·rw [key false true true false (decide_eq_false a1) (decide_eq_true (by omega)) (decide_eq_true a3) (decide_eq_false a4)]
    have d4:¬ (c:Int)≤90:=by omega
    go_enter Tryz.func42,Tryz.ntmps42
    go_wp2_with fail
    go_ret
    exact ⟨rfl,rfl⟩
  ·rw [key false true false true (decide_eq_false a1) (decide_eq_true (by omega)) (decide_eq_false a3) (decide_eq_true (by omega))]
   have d1:¬ (97:Int)≤c:=by omega
   have d3:¬ (65:Int)≤c:=by omega
   go_enter Tryz.func42,Tryz.ntmps42
   go_wp2_with fail
   go_ret
   exact ⟨rfl,rfl⟩
theorem pdigit_any (c:Nat) (w:World) (hc:c<256):Calls Tryz.prog 45 #[.int .u8 c] w fun e w'=>e=.returned (.bool (digB c))∧w'=w:=by
 have key:∀ b1 b2,decide (48≤c)=b1→decide (c≤57)=b2→digB c=(b1 && b2):=fun _ _ h1 h2=>by unfold digB;rw [h1,h2]
 by_cases a1:48≤c
 ·have d1:(48:Int)≤c:=by omega
  by_cases a2:c≤57
  ·rw [key true true (decide_eq_true a1) (decide_eq_true a2)]
   have d2:(c:Int)≤57:=by omega
   go_enter Tryz.func45,Tryz.ntmps45
   go_wp2_with fail
   go_ret
   exact ⟨rfl,rfl⟩
  ·rw [key true false (decide_eq_true a1) (decide_eq_false a2)]
   have d2:¬ (c:Int)≤57:=by omega
   go_enter Tryz.func45,Tryz.ntmps45
   go_wp2_with fail
   go_ret
   exact ⟨rfl,rfl⟩
 ·rw [key false true (decide_eq_false a1) (decide_eq_true (by omega))]
  have d1:¬ (48:Int)≤c:=by omega
  go_enter Tryz.func45,Tryz.ntmps45
  go_wp2_with fail
  go_ret
  exact ⟨rfl,rfl⟩
theorem bytes_eq (s:ByteArray) (l:List UInt8) (h:¬ bytes s=l):(s.toList == l)=false:=by
 simp only [ByteArray.toList_eq,beq_eq_false_iff_ne,ne_eq]
 exact h
theorem bytes_same (s:ByteArray) (l:List UInt8) (h:bytes s=l):(s.toList == l)=true:=by
 simp only [ByteArray.toList_eq,beq_iff_eq]
 exact h
theorem barred_any (s:ByteArray) (w:World):Calls Tryz.prog 127 #[.string s] w fun e w'=>e=.returned (.bool (reserved.contains (bytes s)))∧w'=w:=by
 by_cases a0:bytes s=[98,114,101,97,107]
 ·have d0:=bytes_same s [98,114,101,97,107] a0
  rw [show reserved.contains (bytes s)=true by rw [a0];decide]
  clear a0
  go_enter Tryz.func127,Tryz.ntmps127
  go_wp2_with fail
  go_ret
  exact ⟨rfl,rfl⟩
 have d0:=bytes_eq s [98,114,101,97,107] a0
 by_cases a1:bytes s=[99,111,117,110,116]
 ·have d1:=bytes_same s [99,111,117,110,116] a1
  rw [show reserved.contains (bytes s)=true by rw [a1];decide]
  clear a1
  go_enter Tryz.func127,Tryz.ntmps127
  go_wp2_with fail
  go_ret
  exact ⟨rfl,rfl⟩
 have d1:=bytes_eq s [99,111,117,110,116] a1
 by_cases a2:bytes s=[101,108,115,101]
 ·have d2:=bytes_same s [101,108,115,101] a2
  rw [show reserved.contains (bytes s)=true by rw [a2];decide]
  clear a2
  go_enter Tryz.func127,Tryz.ntmps127
  go_wp2_with fail
  go_ret
  exact ⟨rfl,rfl⟩
 have d2:=bytes_eq s [101,108,115,101] a2
 by_cases a3:bytes s=[101,120,116,101,114,110]
 ·have d3:=bytes_same s [101,120,116,101,114,110] a3
  rw [show reserved.contains (bytes s)=true by rw [a3];decide]
  clear a3
  go_enter Tryz.func127,Tryz.ntmps127
  go_wp2_with fail
  go_ret
  exact ⟨rfl,rfl⟩
 have d3:=bytes_eq s [101,120,116,101,114,110] a3
 by_cases a4:bytes s=[101,120,116,114,97]
 ·have d4:=bytes_same s [101,120,116,114,97] a4
  rw [show reserved.contains (bytes s)=true by rw [a4];decide]
  clear a4
  go_enter Tryz.func127,Tryz.ntmps127
  go_wp2_with fail
  go_ret
  exact ⟨rfl,rfl⟩
 have d4:=bytes_eq s [101,120,116,114,97] a4
 by_cases a5:bytes s=[102,110]
 ·have d5:=bytes_same s [102,110] a5
  rw [show reserved.contains (bytes s)=true by rw [a5];decide]
  clear a5
  go_enter Tryz.func127,Tryz.ntmps127
  go_wp2_with fail
  go_ret
  exact ⟨rfl,rfl⟩
 have d5:=bytes_eq s [102,110] a5
 by_cases a6:bytes s=[105,102]
 ·have d6:=bytes_same s [105,102] a6
  rw [show reserved.contains (bytes s)=true by rw [a6];decide]
  clear a6
  go_enter Tryz.func127,Tryz.ntmps127
  go_wp2_with fail
  go_ret
  exact ⟨rfl,rfl⟩
 have d6:=bytes_eq s [105,102] a6
 by_cases a7:bytes s=[105,110,116]
 ·have d7:=bytes_same s [105,110,116] a7
  rw [show reserved.contains (bytes s)=true by rw [a7];decide]
  clear a7
  go_enter Tryz.func127,Tryz.ntmps127
  go_wp2_with fail
  go_ret
  exact ⟨rfl,rfl⟩
 have d7:=bytes_eq s [105,110,116] a7
 by_cases a8:bytes s=[108,111,110,103]
 ·have d8:=bytes_same s [108,111,110,103] a8
  rw [show reserved.contains (bytes s)=true by rw [a8];decide]
  clear a8
  go_enter Tryz.func127,Tryz.ntmps127
  go_wp2_with fail
  go_ret
  exact ⟨rfl,rfl⟩
 have d8:=bytes_eq s [108,111,110,103] a8
 by_cases a9:bytes s=[112,117,116]
 ·have d9:=bytes_same s [112,117,116] a9
  rw [show reserved.contains (bytes s)=true by rw [a9];decide]
  clear a9
  go_enter Tryz.func127,Tryz.ntmps127
  go_wp2_with fail
  go_ret
  exact ⟨rfl,rfl⟩
 have d9:=bytes_eq s [112,117,116] a9
 by_cases a10:bytes s=[114,101,116,117,114,110]
 ·have d10:=bytes_same s [114,101,116,117,114,110] a10
  rw [show reserved.contains (bytes s)=true by rw [a10];decide]
  clear a10
  go_enter Tryz.func127,Tryz.ntmps127
  go_wp2_with fail
  go_ret
  exact ⟨rfl,rfl⟩
 have d10:=bytes_eq s [114,101,116,117,114,110] a10
 by_cases a11:bytes s=[115,116,97,116,105,99]
 ·have d11:=bytes_same s [115,116,97,116,105,99] a11
  rw [show reserved.contains (bytes s)=true by rw [a11];decide]
  clear a11
  go_enter Tryz.func127,Tryz.ntmps127
  go_wp2_with fail
  go_ret
  exact ⟨rfl,rfl⟩
 have d11:=bytes_eq s [115,116,97,116,105,99] a11
 by_cases a12:bytes s=[115,116,114,117,99,116]
 ·have d12:=bytes_same s [115,116,114,117,99,116] a12
  rw [show reserved.contains (bytes s)=true by rw [a12];decide]
  clear a12
  go_enter Tryz.func127,Tryz.ntmps127
  go_wp2_with fail
  go_ret
  exact ⟨rfl,rfl⟩
 have d12:=bytes_eq s [115,116,114,117,99,116] a12
 by_cases a13:bytes s=[119,104,105,108,101]
 ·have d13:=bytes_same s [119,104,105,108,101] a13
  rw [show reserved.contains (bytes s)=true by rw [a13];decide]
  clear a13
  go_enter Tryz.func127,Tryz.ntmps127
  go_wp2_with fail
  go_ret
  exact ⟨rfl,rfl⟩
 have d13:=bytes_eq s [119,104,105,108,101] a13
 have hn:reserved.contains (bytes s)=false:=by
  rw [Bool.eq_false_iff]
  intro h
  rw [List.contains_iff_mem] at h
  simp only [reserved,List.mem_cons,List.not_mem_nil,or_false] at h
  rcases h with h|h|h|h|h|h|h|h|h|h|h|h|h|h
  ·exact a0 h
  ·exact a1 h
  ·exact a2 h
  ·exact a3 h
  ·exact a4 h
  ·exact a5 h
  ·exact a6 h
  ·exact a7 h
  ·exact a8 h
  ·exact a9 h
  ·exact a10 h
  ·exact a11 h
  ·exact a12 h
  ·exact a13 h
 rw [hn]
 clear hn a0 a1 a2 a3 a4 a5 a6 a7 a8 a9 a10 a11 a12 a13
 go_enter Tryz.func127,Tryz.ntmps127
 go_wp2_with fail
 go_ret
 exact ⟨rfl,rfl⟩
def insB (c:Nat):Bool:=letB c || digB c || decide (c=95)
theorem pin_any (c:Nat) (w:World) (hc:c<256):Calls Tryz.prog 44 #[.int .u8 c] w fun e w'=>e=.returned (.bool (insB c))∧w'=w:=by
 have hlet:=fun w'=>pletter_any c w' hc
 have hdig:=fun w'=>pdigit_any c w' hc
 obtain ⟨r,hr⟩:∃ r,r=insB c:=⟨_,rfl⟩
 rw [← hr]
 unfold insB at hr
 have HR:=hide hr
 clear hr
 cases hL:letB c with
 | true=>
  rw [hL] at hlet
  obtain rfl:r=true:=by rw [HR.out,hL];rfl
  go_enter Tryz.func44,Tryz.ntmps44
  go_wp2_with fail
  go_at_call 42
  refine (hlet _).mono ?_
  rintro e w1 ⟨rfl,rfl⟩
  go_wp2_with fail
  go_ret
  exact ⟨rfl,rfl⟩
 | false=>
  rw [hL] at hlet
  cases hD:digB c with
  | true=>
   rw [hD] at hdig
   obtain rfl:r=true:=by rw [HR.out,hL,hD];rfl
   go_enter Tryz.func44,Tryz.ntmps44
   go_wp2_with fail
   go_at_call 42
   refine (hlet _).mono ?_
   rintro e w1 ⟨rfl,rfl⟩
   go_wp2_with fail
   go_at_call 45
   refine (hdig _).mono ?_
   rintro e w1 ⟨rfl,rfl⟩
   go_wp2_with fail
   go_ret
   exact ⟨rfl,rfl⟩
  | false=>
   rw [hD] at hdig
   obtain rfl:r=((c:Int) == 95):=by
    rw [HR.out,hL,hD]
    by_cases h:c=95
    ·subst h;rfl
    ·rw [decide_eq_false h];simp;omega
   clear HR
   go_enter Tryz.func44,Tryz.ntmps44
   go_wp2_with fail
   go_at_call 42
   refine (hlet _).mono ?_
   rintro e w1 ⟨rfl,rfl⟩
   go_wp2_with fail
   go_at_call 45
   refine (hdig _).mono ?_
   rintro e w1 ⟨rfl,rfl⟩
   go_wp2_with fail
   go_ret
   exact ⟨rfl,rfl⟩
theorem sign_at (s:ByteArray) (k:Nat) (hlt:k<s.size):signB (bytes s) k=(letB s[k].toNat || (decide (k≠0) && (digB s[k].toNat || decide (s[k].toNat=95)))):=by
 have e:(bytes s)[k]?=some s[k]:=by
  show s.data.toList[k]?=_
  rw [Array.getElem?_toList]
  exact Array.getElem?_eq_getElem hlt
 unfold signB
 rw [e]
theorem name_bad (s:ByteArray) (k:Nat) (hlt:k<s.size) (h:signB (bytes s) k=false):nameB (bytes s)=false:=by
 unfold nameB
 have:((List.range (bytes s).length).all fun i=>signB (bytes s) i)=false:=by
  rw [Bool.eq_false_iff]
  intro e
  rw [List.all_eq_true] at e
  have:=e k (by rw [List.mem_range];exact hlt)
  rw [h] at this
  cases this
 rw [this]
 simp
theorem pname_any (s:ByteArray) (w:World) (hs:s.size≤maxLen):Calls Tryz.prog 103 #[.string s] w fun e w'=>e=.returned (.bool (nameB (bytes s)))∧w'=w:=by
 have hm:maxLen=9223372036854775807:=rfl
 have hl:(bytes s).length=s.size:=rfl
 by_cases a1:s.size<1
 ·have:nameB (bytes s)=false:=by unfold nameB;rw [hl,decide_eq_false (by omega)];rfl
  rw [this]
  have d1:(s.size:Int)<1:=by omega
  go_enter Tryz.func103,Tryz.ntmps103
  go_wp2_with fail
  go_ret
  exact ⟨rfl,rfl⟩
 have d1:¬ (s.size:Int)<1:=by omega
 by_cases a2:16<s.size
 ·have:nameB (bytes s)=false:=by unfold nameB;rw [hl,decide_eq_true (show 1≤s.size by omega),decide_eq_false (show ¬ s.size≤16 by omega)];rfl
  rw [this]
  have d2:(16:Int)<s.size:=by omega
  go_enter Tryz.func103,Tryz.ntmps103
  go_wp2_with fail
  go_ret
  exact ⟨rfl,rfl⟩
 have d2:¬ (16:Int)<s.size:=by omega
 have h0:0<s.size:=by omega
 have h0i:(0:Int)<s.size:=by omega
 have hlet0:=fun w'=>pletter_any s[0].toNat w' (UInt8.toNat_lt _)
 have hs0:=sign_at s 0 h0
 cases hL0:letB s[0].toNat with
 | false=>
  rw [hL0] at hlet0 hs0
  have HF:Hid (nameB (bytes s)=false):=name_bad s 0 h0 (by rw [hs0];rfl)
  clear hs0
  rw [HF.out]
  go_enter Tryz.func103,Tryz.ntmps103
  go_wp2_with fail
  go_at_call 42
  refine (hlet0 _).mono ?_
  rintro e w1 ⟨rfl,rfl⟩
  go_wp2_with fail
  go_ret
  exact ⟨rfl,rfl⟩
 | true=>
 rw [hL0] at hlet0 hs0
 have HS0:Hid (signB (bytes s) 0=true):=by show _=_;rw [hs0];rfl
 clear hs0
 go_enter Tryz.func103,Tryz.ntmps103
 go_wp2_with fail
 go_at_call 42
 refine (hlet0 _).mono ?_
 rintro e w1 ⟨rfl,rfl⟩
 go_wp2_with fail
 go_loopw [3] (fun i wr=>∃ k:Nat,k≤s.size∧1≤k∧i=.int .i64 k∧wr=w1∧Hid (∀ j,j<k→signB (bytes s) j=true)) (fun i _=>s.size - (intOf i).toNat)
 case atStart=>exact ⟨1,by omega,Nat.le_refl _,rfl,rfl,fun j hj=>(show j=0 by omega) ▸ HS0.out⟩
 case round=>
  clear hlet0
  obtain ⟨k,hk,k1,rfl,rfl,HK⟩:=hrel
  by_cases hlt:k<s.size
  ·have hlt':(k:Int)<s.size:=by omega
   have hidx:(0:Int)≤k∧(k:Int)<s.size:=by omega
   have hb:s[k].toNat<256:=UInt8.toNat_lt _
   have hsig:=sign_at s k hlt
   rw [decide_eq_true (show k≠0 by omega),Bool.true_and] at hsig
   have HE:Hid (signB (bytes s) k=true→∀ j,j<k+1→signB (bytes s) j=true):=fun h j hj=>by
    by_cases e:j=k
    ·subst e;exact h
    ·exact HK.out j (by omega)
   have HF:Hid (signB (bytes s) k=false→nameB (bytes s)=false):=fun h=>name_bad s k hlt h
   have hin:=fun w'=>pin_any s[k].toNat w' hb
   have hsig2:signB (bytes s) k=insB s[k].toNat:=by rw [hsig];unfold insB;rw [Bool.or_assoc]
   clear hsig
   cases hI:insB s[k].toNat with
   | true=>
    rw [hI] at hin hsig2
    go_wp2_with fail
    go_at_call 44
    refine (hin _).mono ?_
    rintro e w1 ⟨rfl,rfl⟩
    go_wp2_with fail
    go_roundw
    case rel=>exact ⟨k+1,by omega,by omega,by go_num,trivial,HE.out hsig2⟩
    case measure=>simp [intOf];omega
   | false=>
    rw [hI] at hin hsig2
    go_wp2_with fail
    go_at_call 44
    refine (hin _).mono ?_
    rintro e w1 ⟨rfl,rfl⟩
    go_wp2_with fail
    go_ret
    exact ⟨by rw [HF.out hsig2];rfl,rfl⟩
  ·have hkn:k=s.size:=by omega
   subst hkn
   have hlt':¬ (s.size:Int)<s.size:=by omega
   have hba:=fun w'=>barred_any s w'
   obtain ⟨rb,hrb⟩:∃ rb,rb=reserved.contains (bytes s):=⟨_,rfl⟩
   have HN:Hid (nameB (bytes s)=!rb):=by
    show _=_
    unfold nameB
    rw [hrb]
    rw [hl,decide_eq_true (show 1≤s.size by omega),decide_eq_true (show s.size≤16 by omega),(List.all_eq_true).2 (fun i hi=>HK.out i (List.mem_range.1 hi))]
    rfl
   rw [← hrb] at hba
   clear hrb
   go_wp2_with fail
   go_at_call 127
   refine (hba _).mono ?_
   rintro e w2 ⟨rfl,rfl⟩
   go_wp2_with fail
   go_ret
   exact ⟨by rw [HN.out];rfl,rfl⟩
end Go.Proofs.YthcfianhdkolhaaGreatDoor.T
namespace Go.Proofs.YthcfianhdkolhaaGreatDoor.T
open Go.RowKit Go.Proofs.YthcfianhdkolhaaGreatDoor.S
set_option linter.unusedVariables false
set_option linter.unusedSimpArgs false
def str (s:List UInt8):ByteArray:=⟨s.toArray⟩
theorem str_data (x:ByteArray):str x.data.toList=x:=rfl
theorem bytes_str (s:List UInt8):bytes (str s)=s:=by simp [bytes,str]
theorem cells_at {W:World} {b:Nat} {cur:Array Value} {t:TypeId} (h:W.heap[b]?=some (.cells cur t (0,0))):∀ o,W.cell? ⟨b,o,none⟩=cur[o]?:=fun o=>by simp [World.cell?,h]
theorem frozen_at {W:World} {b:Nat} {cur:Array Value} {t:TypeId} (h:W.heap[b]?=some (.cells cur t (0,0))):∀ o,W.frozen? ⟨b,o,none⟩=false:=fun o=>by simp only [World.frozen?,h];rfl
theorem grown_drewN (w:World) (n:Nat):w.grownBy (w.drewN n) none:=⟨rfl,rfl,rfl,Nat.le_refl _,fun _ _ _=>rfl⟩
theorem grown_refl (w:World) (r:Option Nat):w.grownBy w r:=⟨rfl,rfl,rfl,Nat.le_refl _,fun _ _ _=>rfl⟩
theorem grown_below {w w':World} (h:Below w.heap.size w w'):w.grownBy w' none:=⟨h.os,h.tape,h.output,h.size,fun k hk _=>h.block k hk⟩
theorem below_grown {w w':World} (h:w.grownBy w' none):Below w.heap.size w w':=⟨h.os,h.tape,h.output,h.size,fun k hk=>h.block k hk (by simp)⟩
inductive NdO (w:World):Nd→Value→Prop
 | mk (kind:Int) (text:List UInt8) (num:Int) (kids:List Nd) (ka:Option Addr) (kc:Nat) (c:Nat→Nat→Value):text.length≤9223372036854775807→-9223372036854775808≤num→num≤9223372036854775807→kids.length≤kc→kc≤9223372036854775807 →
   (kids≠[]→∃ g o,ka=some ⟨g,o,none⟩∧∀ j i,j<kids.length→i<4→w.cell? ⟨g,o+j*4+i,none⟩=some (c j i)) →
   (∀ j (hj:j<kids.length),NdO w kids[j] (.agg #[c j 0,c j 1,c j 2,c j 3])) →
   NdO w (.mk kind text num kids) (.agg #[.int .i64 kind,.string (str text),.int .i64 num,.slice ka kids.length kc])
theorem NdO.form {w:World} {n:Nd} {v:Value} (h:NdO w n v):∃ kind text num ka kn kc,v=.agg #[.int .i64 kind,.string text,.int .i64 num,.slice ka kn kc]:=by
 cases h with
 | mk kind text num kids ka kc=>exact ⟨_,_,_,_,_,_,rfl⟩
def RowO (w:World) (ka:Option Addr) (l:List Nd):Prop:=l≠[]→∃ g o,ka=some ⟨g,o,none⟩∧g<w.heap.size∧∀ j (hj:j<l.length),∃ k0 x0 n0 a0 m0 c0,
 w.cell? ⟨g,o+j*4,none⟩=some (.int .i64 k0)∧w.cell? ⟨g,o+j*4+1,none⟩=some (.string x0)∧w.cell? ⟨g,o+j*4+2,none⟩=some (.int .i64 n0)∧w.cell? ⟨g,o+j*4+3,none⟩=some (.slice a0 m0 c0)∧NdO w l[j] (.agg #[.int .i64 k0,.string x0,.int .i64 n0,.slice a0 m0 c0])
theorem NdO.part {w:World} {kind:Int} {text:List UInt8} {num:Int} {kids:List Nd} {v:Value} (h:NdO w (.mk kind text num kids) v):∃ ka kc,v=.agg #[.int .i64 kind,.string (str text),.int .i64 num,.slice ka kids.length kc]∧text.length≤9223372036854775807∧-9223372036854775808≤num∧num≤9223372036854775807∧kids.length≤kc∧kc≤9223372036854775807∧RowO w ka kids:=by
 cases h with
 | mk _ _ _ _ ka kc c h1 h2 h3 h4 h5 h6 h7=>
  refine ⟨ka,kc,rfl,h1,h2,h3,h4,h5,fun hne=>?_⟩
  obtain ⟨g,o,rfl,hc⟩:=h6 hne
  have hpos:0<kids.length:=List.length_pos_iff.2 hne
  refine ⟨g,o,rfl,World.block_lt_of_cell? w ⟨g,o+0*4+0,none⟩ (hc 0 0 hpos (by omega)),fun j hj=>?_⟩
  have hj':=h7 j hj
  obtain ⟨k0,x0,n0,a0,m0,c0,e⟩:=hj'.form
  have e':c j 0=.int .i64 k0∧c j 1=.string x0∧c j 2=.int .i64 n0∧c j 3=.slice a0 m0 c0:=by simpa using e
  rw [e'.1,e'.2.1,e'.2.2.1,e'.2.2.2] at hj'
  have q0:=hc j 0 hj (by omega)
  have q1:=hc j 1 hj (by omega)
  have q2:=hc j 2 hj (by omega)
  have q3:=hc j 3 hj (by omega)
  rw [e'.1] at q0
  rw [e'.2.1] at q1
  rw [e'.2.2.1] at q2
  rw [e'.2.2.2] at q3
  exact ⟨k0,x0,n0,a0,m0,c0,q0,q1,q2,q3,hj'⟩
theorem RowO.take {w:World} {ka:Option Addr} {l:List Nd} (h:RowO w ka l) (k:Nat):RowO w ka (l.take k):=fun hne=>by
 obtain ⟨g,o,e,hg,hx⟩:=h (fun e=>hne (by rw [e];simp))
 refine ⟨g,o,e,hg,fun j hj=>?_⟩
 have hj':j<l.length:=by rw [List.length_take] at hj;omega
 rw [List.getElem_take]
 exact hx j hj'
def opsP:List (List UInt8 × Int × Int):=[(sSAME,12,0),(sLESS,10,0),(sPLUS,1,1),(sMINUS,2,1),(sOR,8,1),(sXOR,9,1),(sMUL,3,2),(sDIV,5,2),(sREM,6,2),(sAMP,7,2)]
def opr (k:Nat):List UInt8 × Int × Int:=opsP.getD k ([],0,0)
end Go.Proofs.YthcfianhdkolhaaGreatDoor.T
namespace Go.Proofs
open Go.Shelf
open Go.RowKit in
open Go.RowKit in
def Tryz.lays104_ren:Go.Shelf.Ren:=⟨fun|104=>62|211=>86|207=>112|n=>n,fun|9=>9|4=>4|24=>91|3=>3|n=>n,fun|n=>n⟩
theorem Tryz.lays104:Go.Proofs.Lays.n104 Tryz.prog Tryz.lays104_ren:={
 mixed:=by kernel_rfl
 f104:=Tryz.func62.trans (congrArg some (by kernel_rfl))
 f207:=Tryz.func112.trans (congrArg some (by kernel_rfl))
 f211:=Tryz.func86.trans (congrArg some (by kernel_rfl))
 t3:=Tryz.underlying3
 a3:=Tryz.isAgg3
 z3:=Tryz.sizeOf3
 v3:=Tryz.zeroValue3
 t4:=Tryz.underlying4
 a4:=Tryz.isAgg4
 z4:=Tryz.sizeOf4
 v4:=Tryz.zeroValue4
 t9:=Tryz.underlying9
 a9:=Tryz.isAgg9
 z9:=Tryz.sizeOf9
 v9:=Tryz.zeroValue9
 t24:=Tryz.underlying91
 a24:=Tryz.isAgg91
 z24:=Tryz.sizeOf91
 v24:=Tryz.zeroValue91 }
open Go.RowKit in
theorem Tryz.strings_CutSuffix (s p:ByteArray) (w:World) (hs:s.size≤9223372036854775807):
  Calls Tryz.prog 62 #[.string s,.string p] w fun e w'=>e=.returned (.tuple #[.string ⟨(Lib.trimSuffix s.data.toList p.data.toList).toArray⟩,.bool (Lib.hasSuffix s.data.toList p.data.toList)])∧w'=w:=Any.strings_CutSuffix Tryz.lays104 s p w hs
open Go.RowKit Go.Sort Go.Lib in
def Tryz.laysM316_ren:Go.Shelf.Ren:=⟨fun|316=>111|n=>n,fun|9=>9|3=>3|4=>4|37=>81|0=>0|127=>101|5=>5|n=>n,fun|n=>n⟩
theorem Tryz.laysM316:Go.Proofs.LaysM.n316 Tryz.prog Tryz.laysM316_ren:={
 mixed:=by kernel_rfl
 f316:=Tryz.func111.trans (congrArg some (by kernel_rfl))
 t0:=Tryz.underlying0
 a0:=Tryz.isAgg0
 z0:=Tryz.sizeOf0
 v0:=Tryz.zeroValue0
 t3:=Tryz.underlying3
 a3:=Tryz.isAgg3
 z3:=Tryz.sizeOf3
 v3:=Tryz.zeroValue3
 t4:=Tryz.underlying4
 a4:=Tryz.isAgg4
 z4:=Tryz.sizeOf4
 v4:=Tryz.zeroValue4
 t9:=Tryz.underlying9
 a9:=Tryz.isAgg9
 z9:=Tryz.sizeOf9
 v9:=Tryz.zeroValue9
 t37:=Tryz.underlying81
 a37:=Tryz.isAgg81
 z37:=Tryz.sizeOf81
 v37:=Tryz.zeroValue81
 t127:=Tryz.underlying101
 a127:=Tryz.isAgg101
 z127:=Tryz.sizeOf101
 v127:=Tryz.zeroValue101
 t5:=Tryz.underlying5
 a5:=Tryz.isAgg5
 z5:=Tryz.sizeOf5
 v5:=Tryz.zeroValue5
 i0:=by kernel_rfl
 i3:=by kernel_rfl
 i4:=by kernel_rfl
 i5:=by kernel_rfl
 i9:=by kernel_rfl
 i37:=by kernel_rfl
 i127:=by kernel_rfl }
open Go.RowKit in
theorem Tryz.stringslite_Clone (s:ByteArray) (w:World) (hlim:s.size≤281474976710656):
  Calls Tryz.prog 111 #[.string s] w fun e w'=>e=.returned (.string s)∧Below w.heap.size w w':=Any.stringslite_Clone Tryz.laysM316 s w hlim
def Tryz.laysC174_ren:Go.Shelf.Ren:=⟨fun|174=>64|247=>87|245=>88|287=>113|279=>114|280=>115|281=>116|282=>117|321=>132|322=>133|316=>111|171=>135|205=>134|243=>150|246=>145|283=>157|284=>158|285=>159|286=>160|129=>167|317=>166|318=>168|319=>169|320=>170|337=>174|338=>175|n=>n,fun|9=>9|3=>3|2=>2|75=>86|85=>93|4=>4|167=>116|5=>5|53=>117|175=>118|46=>120|168=>121|37=>81|0=>0|210=>132|21=>21|127=>101|145=>144|143=>142|171=>151|173=>154|212=>162|51=>145|20=>20|213=>163|232=>168|233=>169|80=>61|n=>n,fun|15=>2|16=>3|17=>5|18=>6|19=>7|n=>n⟩
theorem Tryz.laysC174:Go.Proofs.LaysC.n174 Tryz.prog Tryz.laysC174_ren:={
 mixed:=by kernel_rfl
 f129:=Tryz.func167.trans (congrArg some (by kernel_rfl))
 f171:=Tryz.func135.trans (congrArg some (by kernel_rfl))
 f174:=Tryz.func64.trans (congrArg some (by kernel_rfl))
 f205:=Tryz.func134.trans (congrArg some (by kernel_rfl))
 f243:=Tryz.func150.trans (congrArg some (by kernel_rfl))
 f245:=Tryz.func88.trans (congrArg some (by kernel_rfl))
 f246:=Tryz.func145.trans (congrArg some (by kernel_rfl))
 f247:=Tryz.func87.trans (congrArg some (by kernel_rfl))
 f279:=Tryz.func114.trans (congrArg some (by kernel_rfl))
 f280:=Tryz.func115.trans (congrArg some (by kernel_rfl))
 f281:=Tryz.func116.trans (congrArg some (by kernel_rfl))
 f282:=Tryz.func117.trans (congrArg some (by kernel_rfl))
 f283:=Tryz.func157.trans (congrArg some (by kernel_rfl))
 f284:=Tryz.func158.trans (congrArg some (by kernel_rfl))
 f285:=Tryz.func159.trans (congrArg some (by kernel_rfl))
 f286:=Tryz.func160.trans (congrArg some (by kernel_rfl))
 f287:=Tryz.func113.trans (congrArg some (by kernel_rfl))
 f316:=Tryz.func111.trans (congrArg some (by kernel_rfl))
 f317:=Tryz.func166.trans (congrArg some (by kernel_rfl))
 f318:=Tryz.func168.trans (congrArg some (by kernel_rfl))
 f319:=Tryz.func169.trans (congrArg some (by kernel_rfl))
 f320:=Tryz.func170.trans (congrArg some (by kernel_rfl))
 f321:=Tryz.func132.trans (congrArg some (by kernel_rfl))
 f322:=Tryz.func133.trans (congrArg some (by kernel_rfl))
 f337:=Tryz.func174.trans (congrArg some (by kernel_rfl))
 f338:=Tryz.func175.trans (congrArg some (by kernel_rfl))
 t0:=Tryz.underlying0
 a0:=Tryz.isAgg0
 z0:=Tryz.sizeOf0
 v0:=Tryz.zeroValue0
 t2:=Tryz.underlying2
 a2:=Tryz.isAgg2
 z2:=Tryz.sizeOf2
 v2:=Tryz.zeroValue2
 t3:=Tryz.underlying3
 a3:=Tryz.isAgg3
 z3:=Tryz.sizeOf3
 v3:=Tryz.zeroValue3
 t4:=Tryz.underlying4
 a4:=Tryz.isAgg4
 z4:=Tryz.sizeOf4
 v4:=Tryz.zeroValue4
 t5:=Tryz.underlying5
 a5:=Tryz.isAgg5
 z5:=Tryz.sizeOf5
 v5:=Tryz.zeroValue5
 t9:=Tryz.underlying9
 a9:=Tryz.isAgg9
 z9:=Tryz.sizeOf9
 v9:=Tryz.zeroValue9
 t20:=Tryz.underlying20
 a20:=Tryz.isAgg20
 z20:=Tryz.sizeOf20
 v20:=Tryz.zeroValue20
 t21:=Tryz.underlying21
 a21:=Tryz.isAgg21
 z21:=Tryz.sizeOf21
 v21:=Tryz.zeroValue21
 t37:=Tryz.underlying81
 a37:=Tryz.isAgg81
 z37:=Tryz.sizeOf81
 v37:=Tryz.zeroValue81
 t46:=Tryz.underlying120
 a46:=Tryz.isAgg120
 z46:=Tryz.sizeOf120
 v46:=Tryz.zeroValue120
 t51:=Tryz.underlying145
 a51:=Tryz.isAgg145
 z51:=Tryz.sizeOf145
 v51:=Tryz.zeroValue145
 t53:=Tryz.underlying117
 a53:=Tryz.isAgg117
 z53:=Tryz.sizeOf117
 v53:=Tryz.zeroValue117
 t75:=Tryz.underlying86
 a75:=Tryz.isAgg86
 z75:=Tryz.sizeOf86
 v75:=Tryz.zeroValue86
 t85:=Tryz.underlying93
 a85:=Tryz.isAgg93
 z85:=Tryz.sizeOf93
 v85:=Tryz.zeroValue93
 t127:=Tryz.underlying101
 a127:=Tryz.isAgg101
 z127:=Tryz.sizeOf101
 v127:=Tryz.zeroValue101
 t143:=Tryz.underlying142
 a143:=Tryz.isAgg142
 z143:=Tryz.sizeOf142
 v143:=Tryz.zeroValue142
 t145:=Tryz.underlying144
 a145:=Tryz.isAgg144
 z145:=Tryz.sizeOf144
 v145:=Tryz.zeroValue144
 t167:=Tryz.underlying116
 a167:=Tryz.isAgg116
 z167:=Tryz.sizeOf116
 v167:=Tryz.zeroValue116
 t168:=Tryz.underlying121
 a168:=Tryz.isAgg121
 z168:=Tryz.sizeOf121
 v168:=Tryz.zeroValue121
 t171:=Tryz.underlying151
 a171:=Tryz.isAgg151
 z171:=Tryz.sizeOf151
 v171:=Tryz.zeroValue151
 t173:=Tryz.underlying154
 a173:=Tryz.isAgg154
 z173:=Tryz.sizeOf154
 v173:=Tryz.zeroValue154
 t175:=Tryz.underlying118
 a175:=Tryz.isAgg118
 z175:=Tryz.sizeOf118
 v175:=Tryz.zeroValue118
 t210:=Tryz.underlying132
 a210:=Tryz.isAgg132
 z210:=Tryz.sizeOf132
 v210:=Tryz.zeroValue132
 t212:=Tryz.underlying162
 a212:=Tryz.isAgg162
 z212:=Tryz.sizeOf162
 v212:=Tryz.zeroValue162
 t213:=Tryz.underlying163
 a213:=Tryz.isAgg163
 z213:=Tryz.sizeOf163
 t232:=Tryz.underlying168
 a232:=Tryz.isAgg168
 z232:=Tryz.sizeOf168
 v232:=Tryz.zeroValue168
 t233:=Tryz.underlying169
 a233:=Tryz.isAgg169
 z233:=Tryz.sizeOf169
 v233:=Tryz.zeroValue169
 g15:=by kernel_rfl
 g16:=by kernel_rfl
 g17:=by kernel_rfl
 g18:=by kernel_rfl
 g19:=by kernel_rfl
 t80:=Tryz.underlying61
 a80:=Tryz.isAgg61
 z80:=Tryz.sizeOf61
 v80:=Tryz.zeroValue61
 i0:=by kernel_rfl
 i2:=by kernel_rfl
 i3:=by kernel_rfl
 i4:=by kernel_rfl
 i5:=by kernel_rfl
 i9:=by kernel_rfl
 i20:=by kernel_rfl
 i21:=by kernel_rfl
 i37:=by kernel_rfl
 i46:=by kernel_rfl
 i51:=by kernel_rfl
 i53:=by kernel_rfl
 i75:=by kernel_rfl
 i80:=by kernel_rfl
 i85:=by kernel_rfl
 i127:=by kernel_rfl
 i143:=by kernel_rfl
 i145:=by kernel_rfl
 i167:=by kernel_rfl
 i168:=by kernel_rfl
 i171:=by kernel_rfl
 i173:=by kernel_rfl
 i175:=by kernel_rfl
 i210:=by kernel_rfl
 i212:=by kernel_rfl
 i232:=by kernel_rfl
 i233:=by kernel_rfl
 m15:=by kernel_rfl
 m16:=by kernel_rfl
 m17:=by kernel_rfl
 m18:=by kernel_rfl
 m19:=by kernel_rfl
 c0:=by kernel_rfl
 c2:=by kernel_rfl
 c3:=by kernel_rfl
 c4:=by kernel_rfl
 c5:=by kernel_rfl
 c9:=by kernel_rfl
 c20:=by kernel_rfl
 c21:=by kernel_rfl
 c37:=by kernel_rfl
 c46:=by kernel_rfl
 c51:=by kernel_rfl
 c53:=by kernel_rfl
 c75:=by kernel_rfl
 c80:=by kernel_rfl
 c85:=by kernel_rfl
 c127:=by kernel_rfl
 c143:=by kernel_rfl
 c145:=by kernel_rfl
 c167:=by kernel_rfl
 c168:=by kernel_rfl
 c171:=by kernel_rfl
 c173:=by kernel_rfl
 c175:=by kernel_rfl
 c210:=by kernel_rfl
 c212:=by kernel_rfl
 c213:=by kernel_rfl
 c232:=by kernel_rfl
 c233:=by kernel_rfl }
open Go.RowKit in
theorem Tryz.strconv_ParseInt_10_at64_ok (s:ByteArray) (hmax:s.size≤9223372036854775806) (v:Int) (h:Lib.parseIntB 64 s.data.toList=.ok v) (w:World):
  Calls Tryz.prog 64 #[.string s,.int .i64 10,.int .i64 64] w fun e w'=>e=.returned (.tuple #[.int .i64 v,.nilIface])∧(w'=w∨∃ t,w'=Lib.bytesWorld w 5 t):=Any.strconv_ParseInt_10_at64_ok Tryz.laysC174 s hmax v h w
open Go.RowKit in
theorem Tryz.strconv_ParseInt_10_at64_range (s:ByteArray) (hlim:s.size≤281474976710656) (h:Lib.parseIntB 64 s.data.toList=.range) (ev:Value) (w:World) (hv:w.cell? ⟨3,0,none⟩=some ev) (hev:ev=.nilIface∨∃ te pe,ev=.iface te pe):
  Calls Tryz.prog 64 #[.string s,.int .i64 10,.int .i64 64] w fun e w'=>∃ N,e=.returned (.tuple #[.int .i64 (Lib.intSat 64 s.data.toList),.iface 121 (.pointer (some ⟨N,0,none⟩))])∧w.heap.size≤N∧w'.heap[N]?=some (.cells #[.string ⟨#[80,97,114,115,101,73,110,116]⟩,.string s,ev] 132 (0,0))∧Below w.heap.size w w':=Any.strconv_ParseInt_10_at64_range Tryz.laysC174 s hlim h ev w hv hev
open Go.RowKit in
theorem Tryz.strconv_ParseInt_10_at32_ok (s:ByteArray) (hmax:s.size≤9223372036854775806) (v:Int) (h:Lib.parseIntB 32 s.data.toList=.ok v) (w:World):
  Calls Tryz.prog 64 #[.string s,.int .i64 10,.int .i64 32] w fun e w'=>e=.returned (.tuple #[.int .i64 v,.nilIface])∧(w'=w∨∃ t,w'=Lib.bytesWorld w 5 t):=Any.strconv_ParseInt_10_at32_ok Tryz.laysC174 s hmax v h w
open Go.RowKit in
theorem Tryz.strconv_ParseInt_10_at32_range (s:ByteArray) (hlim:s.size≤281474976710656) (h:Lib.parseIntB 32 s.data.toList=.range) (ev:Value) (w:World) (hv:w.cell? ⟨3,0,none⟩=some ev) (hev:ev=.nilIface∨∃ te pe,ev=.iface te pe):
  Calls Tryz.prog 64 #[.string s,.int .i64 10,.int .i64 32] w fun e w'=>∃ N,e=.returned (.tuple #[.int .i64 (Lib.intSat 32 s.data.toList),.iface 121 (.pointer (some ⟨N,0,none⟩))])∧w.heap.size≤N∧w'.heap[N]?=some (.cells #[.string ⟨#[80,97,114,115,101,73,110,116]⟩,.string s,ev] 132 (0,0))∧Below w.heap.size w w':=Any.strconv_ParseInt_10_at32_range Tryz.laysC174 s hlim h ev w hv hev
def Tryz.lays144_ren:Go.Shelf.Ren:=⟨fun|144=>66|143=>90|219=>118|217=>136|225=>137|224=>138|267=>139|266=>151|314=>152|n=>n,fun|9=>9|4=>4|3=>3|5=>5|46=>120|146=>146|51=>145|n=>n,fun|1=>1|n=>n⟩
theorem Tryz.lays144:Go.Proofs.Lays.n144 Tryz.prog Tryz.lays144_ren:={
 mixed:=by kernel_rfl
 f143:=Tryz.func90.trans (congrArg some (by kernel_rfl))
 f144:=Tryz.func66.trans (congrArg some (by kernel_rfl))
 f217:=Tryz.func136.trans (congrArg some (by kernel_rfl))
 f219:=Tryz.func118.trans (congrArg some (by kernel_rfl))
 f224:=Tryz.func138.trans (congrArg some (by kernel_rfl))
 f225:=Tryz.func137.trans (congrArg some (by kernel_rfl))
 f266:=Tryz.func151.trans (congrArg some (by kernel_rfl))
 f267:=Tryz.func139.trans (congrArg some (by kernel_rfl))
 f314:=Tryz.func152.trans (congrArg some (by kernel_rfl))
 t3:=Tryz.underlying3
 a3:=Tryz.isAgg3
 z3:=Tryz.sizeOf3
 v3:=Tryz.zeroValue3
 t4:=Tryz.underlying4
 a4:=Tryz.isAgg4
 z4:=Tryz.sizeOf4
 v4:=Tryz.zeroValue4
 t5:=Tryz.underlying5
 a5:=Tryz.isAgg5
 z5:=Tryz.sizeOf5
 v5:=Tryz.zeroValue5
 t9:=Tryz.underlying9
 a9:=Tryz.isAgg9
 z9:=Tryz.sizeOf9
 v9:=Tryz.zeroValue9
 t46:=Tryz.underlying120
 a46:=Tryz.isAgg120
 z46:=Tryz.sizeOf120
 v46:=Tryz.zeroValue120
 t51:=Tryz.underlying145
 a51:=Tryz.isAgg145
 z51:=Tryz.sizeOf145
 v51:=Tryz.zeroValue145
 t146:=Tryz.underlying146
 a146:=Tryz.isAgg146
 z146:=Tryz.sizeOf146
 v146:=Tryz.zeroValue146
 g1:=by kernel_rfl }
open Go.RowKit Go.Lib in
theorem Tryz.strings_Contains_one (s:ByteArray) (c:UInt8) (w:World):
  Calls Tryz.prog 66 #[.string s,.string ⟨#[c]⟩] w fun e w'=>e=.returned (.bool (decide (0≤Lib.indexByte s.data.toList c)))∧w'=w:=Any.strings_Contains_one Tryz.lays144 s c w
def Tryz.lays99_ren:Go.Shelf.Ren:=⟨fun|99=>65|206=>89|n=>n,fun|9=>9|4=>4|3=>3|n=>n,fun|n=>n⟩
theorem Tryz.lays99:Go.Proofs.Lays.n99 Tryz.prog Tryz.lays99_ren:={
 mixed:=by kernel_rfl
 f99:=Tryz.func65.trans (congrArg some (by kernel_rfl))
 f206:=Tryz.func89.trans (congrArg some (by kernel_rfl))
 t3:=Tryz.underlying3
 a3:=Tryz.isAgg3
 z3:=Tryz.sizeOf3
 v3:=Tryz.zeroValue3
 t4:=Tryz.underlying4
 a4:=Tryz.isAgg4
 z4:=Tryz.sizeOf4
 v4:=Tryz.zeroValue4
 t9:=Tryz.underlying9
 a9:=Tryz.isAgg9
 z9:=Tryz.sizeOf9
 v9:=Tryz.zeroValue9 }
open Go.RowKit Go.Lib in
theorem Tryz.strings_HasPrefix (s p:ByteArray) (w:World):
  Calls Tryz.prog 65 #[.string s,.string p] w fun e w'=>e=.returned (.bool (Lib.hasPrefix s.data.toList p.data.toList))∧w'=w:=Any.strings_HasPrefix Tryz.lays99 s p w
end Go.Proofs
namespace Go.Proofs.YthcfianhdkolhaaGreatDoor
open Go.RowKit
set_option linter.unusedVariables false
theorem qq : (∀ {α : Type} (l : List α) (i : Nat) (h : i < l.toArray.size), l.toArray[i] = l[i]'(by simpa using h)) ∧ (∀ {α : Type} (a : α) (l : List α) (h : 0 < (a :: l).length), (a :: l)[0] = a) ∧ (∀ {α : Type} (a : α) (l : List α) (n : Nat) (h : n + 1 < (a :: l).length), (a :: l)[n + 1] = l[n]'(Nat.lt_of_succ_lt_succ h)) ∧
    (∀ {α : Type} (l : List α) (i : Nat) (a : α), l.toArray.setIfInBounds i a = (l.set i a).toArray) ∧ (∀ {α : Type} (a b : α) (l : List α), (a :: l).set 0 b = b :: l) ∧ (∀ {α : Type} (a b : α) (l : List α) (n : Nat), (a :: l).set (n + 1) b = a :: l.set n b) ∧
    (∀ (a : Act) (d : Tmp) (v : Value), a.put (some d) v = { tmps := a.tmps.setIfInBounds d v, defers := a.defers }) ∧ (∀ (a : Act) (v : Value), a.put none v = a) :=
  ⟨fun l i h => by simp, fun _ _ _ => rfl, fun _ _ _ _ => rfl, fun l i a => by simp, fun _ _ _ => rfl, fun _ _ _ _ => rfl, fun _ _ _ => rfl, fun _ _ => rfl⟩
section
variable {P : Program} {ops : Array Oper} {Q : Exit → Act → World → Prop} {md : Region.Mode} {S : World → Prop}
/-- What only reads is taken first. -/
theorem tq {oi : Oper} {v : Value} {fuel : Nat} {listed : Array Bool} {a : Act} {w : World} (i : Nat)
    (h : wpAnyH P md ops Q S fuel (listed.setIfInBounds i true) (a.put oi.dst v) w) (hi : ops[i]? = some oi := by exact rfl) (hs : Region.noSelect ops = true := by kernel_rfl) (hf : Region.free md ops listed i = true := by kernel_rfl) (hr : (Region.ready md ops listed).contains i = true := by kernel_rfl)
    (hQ : ∀ c a w, Q (.panic c) (a.put oi.dst v) w → Q (.panic c) a w := by exact fun _ _ _ h => h) (hw : Region.wanted oi (yielded ops a.tmps) = true := by rfl) (hy : ∀ w, S w → (execOp a.eval oi).run P w = .ok (.value v) w := by (intro w hSw; (try dsimp only at hSw); go_simp) <;> with_reducible rfl) (hS : S w := by assumption) :
    wpAnyH P md ops Q S (fuel + 1) listed a w := wpAnyH_take hi hs hf hr hQ (Or.inl ⟨hw, hy⟩) hS h
theorem rq {o : Oper} {fuel : Nat} {listed : Array Bool} {a : Act} {w : World} (i : Nat)
    (h : ∀ K' : Act → World → Prop, Shut (∀ a w, S w → (S w → wpAnyH P md ops Q S fuel (listed.setIfInBounds i true) a w) → K' a w) → if Region.wanted o (yielded ops a.tmps) = true then Oper.wp P o a w K' Q else K' (a.put o.dst undef) w)
    (hr : Region.ready md ops listed = [i] := by kernel_rfl) (ho : ops[i]? = some o := by exact rfl) : wpAnyH P md ops Q S (fuel + 1) listed a w := wpAnyH_ready hr (by simp) (AllReadyH.cons ho h AllReadyH.nil)
theorem rq2 {o o2 : Oper} {fuel : Nat} {listed : Array Bool} {a : Act} {w : World} (i j : Nat)
    (h : ∀ K' : Act → World → Prop, Shut (∀ a w, S w → (S w → wpAnyH P md ops Q S fuel (listed.setIfInBounds i true) a w) → K' a w) → if Region.wanted o (yielded ops a.tmps) = true then Oper.wp P o a w K' Q else K' (a.put o.dst undef) w)
    (h2 : ∀ K' : Act → World → Prop, Shut (∀ a w, S w → (S w → wpAnyH P md ops Q S fuel (listed.setIfInBounds j true) a w) → K' a w) → if Region.wanted o2 (yielded ops a.tmps) = true then Oper.wp P o2 a w K' Q else K' (a.put o2.dst undef) w)
    (hr : Region.ready md ops listed = [i, j] := by kernel_rfl) (ho : ops[i]? = some o := by exact rfl) (ho2 : ops[j]? = some o2 := by exact rfl) : wpAnyH P md ops Q S (fuel + 1) listed a w := wpAnyH_ready hr (by simp) (AllReadyH.cons ho h (AllReadyH.cons ho2 h2 AllReadyH.nil))
end
end Go.Proofs.YthcfianhdkolhaaGreatDoor
namespace Go.Proofs.YthcfianhdkolhaaGreatDoor.T
open Go.RowKit Go.Proofs.YthcfianhdkolhaaGreatDoor.S
set_option maxRecDepth 100000
set_option maxHeartbeats 2000000
set_option linter.unusedVariables false
set_option linter.unusedSimpArgs false
theorem str_eqB (a:List UInt8) (x:ByteArray):((str a).toList == x.toList)=decide (a=x.data.toList):=by
 rw [ByteArray.toList_eq,ByteArray.toList_eq]
 have:(str a).data.toList=a:=by simp [str]
 rw [this]
 by_cases h:a=x.data.toList
 ·rw [decide_eq_true h,h];simp
 ·rw [decide_eq_false h];simpa using h
theorem grown_app {a b c:World} {r:Option Nat} (h:a.grownBy b r) (k:b.grownBy c r):a.grownBy c r:=⟨k.os.trans h.os,k.tape.trans h.tape,k.output.trans h.output,Nat.le_trans h.size k.size,fun i hi hn=>(k.block i (Nat.lt_of_lt_of_le hi h.size) hn).trans (h.block i hi hn)⟩
def sgs:List (List UInt8):=[sSAME,sLESS,sPLUS,sMINUS,sOR,sXOR,sMUL,sDIV,sREM,sAMP]
def ops:List Int:=[12,10,1,2,8,9,3,5,6,7]
def sgN (k:Nat):ByteArray:=str (sgs.getD k [])
def opN (k:Nat):Int:=ops.getD k 0
def lvN (k:Nat):Int:=if k<2 then 0 else if k<6 then 1 else 2
theorem sign_hit {s:List UInt8} {k:Nat} (hk:k<10) (h:sgs.getD k []=s):sign s=(lvN k,opN k):=by
 have:k=0∨k=1∨k=2∨k=3∨k=4∨k=5∨k=6∨k=7∨k=8∨k=9:=by omega
 rcases this with rfl|rfl|rfl|rfl|rfl|rfl|rfl|rfl|rfl|rfl<;>(subst h;decide)
theorem sign_miss {s:List UInt8} (h:∀ k,k<10→sgs.getD k []≠s):sign s=(-1,0):=by
 have h0:=h 0 (by omega)
 have h1:=h 1 (by omega)
 have h2:=h 2 (by omega)
 have h3:=h 3 (by omega)
 have h4:=h 4 (by omega)
 have h5:=h 5 (by omega)
 have h6:=h 6 (by omega)
 have h7:=h 7 (by omega)
 have h8:=h 8 (by omega)
 have h9:=h 9 (by omega)
 unfold sign
 rw [if_neg (fun e=>h0 e.symm),if_neg (fun e=>h1 e.symm),if_neg (fun e=>h2 e.symm),if_neg (fun e=>h3 e.symm),if_neg (fun e=>h4 e.symm),if_neg (fun e=>h5 e.symm),if_neg (fun e=>h6 e.symm),if_neg (fun e=>h7 e.symm),if_neg (fun e=>h8 e.symm),if_neg (fun e=>h9 e.symm)]
theorem sign_key (s:List UInt8) (w:World) (a c:Int) (HR:Hid ((a,c)=sign s)):Calls Tryz.prog 102 #[.string (str s)] w fun e w'=>e=.returned (.tuple #[.int .i64 a,.int .i64 c])∧w.grownBy w' none:=by
 go_enter Tryz.func102,Tryz.ntmps102
 go_wp2_with fail
 have hg0:w.grownBy ((w.alloc (.cells #[Value.string ⟨#[61,61]⟩,Value.string ⟨#[60]⟩,Value.string ⟨#[43]⟩,Value.string ⟨#[45]⟩,Value.string ⟨#[124]⟩,Value.string ⟨#[94]⟩,Value.string ⟨#[42]⟩,Value.string ⟨#[47]⟩,Value.string ⟨#[37]⟩,Value.string ⟨#[38]⟩] 9)).alloc (.cells #[Value.int .i64 12,Value.int .i64 10,Value.int .i64 1,Value.int .i64 2,Value.int .i64 8,Value.int .i64 9,Value.int .i64 3,Value.int .i64 5,Value.int .i64 6,Value.int .i64 7] 2)) none:=⟨rfl,rfl,rfl,by simp;omega,fun k hk _=>(Below.heap_alloc _ _ k (by simp;omega)).trans (Below.heap_alloc _ _ k hk)⟩
 have hx0:∀ o,((w.alloc (.cells #[Value.string ⟨#[61,61]⟩,Value.string ⟨#[60]⟩,Value.string ⟨#[43]⟩,Value.string ⟨#[45]⟩,Value.string ⟨#[124]⟩,Value.string ⟨#[94]⟩,Value.string ⟨#[42]⟩,Value.string ⟨#[47]⟩,Value.string ⟨#[37]⟩,Value.string ⟨#[38]⟩] 9)).alloc (.cells #[Value.int .i64 12,Value.int .i64 10,Value.int .i64 1,Value.int .i64 2,Value.int .i64 8,Value.int .i64 9,Value.int .i64 3,Value.int .i64 5,Value.int .i64 6,Value.int .i64 7] 2)).cell? ⟨w.heap.size,o,none⟩=(#[Value.string ⟨#[61,61]⟩,Value.string ⟨#[60]⟩,Value.string ⟨#[43]⟩,Value.string ⟨#[45]⟩,Value.string ⟨#[124]⟩,Value.string ⟨#[94]⟩,Value.string ⟨#[42]⟩,Value.string ⟨#[47]⟩,Value.string ⟨#[37]⟩,Value.string ⟨#[38]⟩])[o]?:=fun o=>(World.cell?_alloc_past _ _ _ (by simp)).trans (World.cell?_alloc_at _ _ _ _ rfl)
 have hy0:∀ o,((w.alloc (.cells #[Value.string ⟨#[61,61]⟩,Value.string ⟨#[60]⟩,Value.string ⟨#[43]⟩,Value.string ⟨#[45]⟩,Value.string ⟨#[124]⟩,Value.string ⟨#[94]⟩,Value.string ⟨#[42]⟩,Value.string ⟨#[47]⟩,Value.string ⟨#[37]⟩,Value.string ⟨#[38]⟩] 9)).alloc (.cells #[Value.int .i64 12,Value.int .i64 10,Value.int .i64 1,Value.int .i64 2,Value.int .i64 8,Value.int .i64 9,Value.int .i64 3,Value.int .i64 5,Value.int .i64 6,Value.int .i64 7] 2)).cell? ⟨w.heap.size+1,o,none⟩=(#[Value.int .i64 12,Value.int .i64 10,Value.int .i64 1,Value.int .i64 2,Value.int .i64 8,Value.int .i64 9,Value.int .i64 3,Value.int .i64 5,Value.int .i64 6,Value.int .i64 7])[o]?:=fun o=>World.cell?_alloc_at _ _ _ _ (by simp)
 have hx1:∀ k,k<10→((w.alloc (.cells #[Value.string ⟨#[61,61]⟩,Value.string ⟨#[60]⟩,Value.string ⟨#[43]⟩,Value.string ⟨#[45]⟩,Value.string ⟨#[124]⟩,Value.string ⟨#[94]⟩,Value.string ⟨#[42]⟩,Value.string ⟨#[47]⟩,Value.string ⟨#[37]⟩,Value.string ⟨#[38]⟩] 9)).alloc (.cells #[Value.int .i64 12,Value.int .i64 10,Value.int .i64 1,Value.int .i64 2,Value.int .i64 8,Value.int .i64 9,Value.int .i64 3,Value.int .i64 5,Value.int .i64 6,Value.int .i64 7] 2)).cell? ⟨w.heap.size,k,none⟩=some (.string (sgN k)):=fun k hk=>by
  rw [hx0]
  have:k=0∨k=1∨k=2∨k=3∨k=4∨k=5∨k=6∨k=7∨k=8∨k=9:=by omega
  rcases this with rfl|rfl|rfl|rfl|rfl|rfl|rfl|rfl|rfl|rfl<;>rfl
 have hy1:∀ k,k<10→((w.alloc (.cells #[Value.string ⟨#[61,61]⟩,Value.string ⟨#[60]⟩,Value.string ⟨#[43]⟩,Value.string ⟨#[45]⟩,Value.string ⟨#[124]⟩,Value.string ⟨#[94]⟩,Value.string ⟨#[42]⟩,Value.string ⟨#[47]⟩,Value.string ⟨#[37]⟩,Value.string ⟨#[38]⟩] 9)).alloc (.cells #[Value.int .i64 12,Value.int .i64 10,Value.int .i64 1,Value.int .i64 2,Value.int .i64 8,Value.int .i64 9,Value.int .i64 3,Value.int .i64 5,Value.int .i64 6,Value.int .i64 7] 2)).cell? ⟨w.heap.size+1,k,none⟩=some (.int .i64 (opN k)):=fun k hk=>by
  rw [hy0]
  have:k=0∨k=1∨k=2∨k=3∨k=4∨k=5∨k=6∨k=7∨k=8∨k=9:=by omega
  rcases this with rfl|rfl|rfl|rfl|rfl|rfl|rfl|rfl|rfl|rfl<;>rfl
 generalize ((w.alloc (.cells #[Value.string ⟨#[61,61]⟩,Value.string ⟨#[60]⟩,Value.string ⟨#[43]⟩,Value.string ⟨#[45]⟩,Value.string ⟨#[124]⟩,Value.string ⟨#[94]⟩,Value.string ⟨#[42]⟩,Value.string ⟨#[47]⟩,Value.string ⟨#[37]⟩,Value.string ⟨#[38]⟩] 9)).alloc (.cells #[Value.int .i64 12,Value.int .i64 10,Value.int .i64 1,Value.int .i64 2,Value.int .i64 8,Value.int .i64 9,Value.int .i64 3,Value.int .i64 5,Value.int .i64 6,Value.int .i64 7] 2))=W at *
 have HG:=hide hg0
 have HC:=hide (And.intro hx1 hy1)
 clear hg0 hx0 hy0 hx1 hy1
 go_loopw [6] (fun i wr=>∃ k:Nat,k≤10∧i=.int .i64 k∧wr=W∧Hid (∀ j,j<k→sgs.getD j []≠s)) (fun i _=>10 - (intOf i).toNat)
 case atStart=>exact ⟨0,Nat.zero_le _,rfl,rfl,fun j hj=>by omega⟩
 case round=>
  obtain ⟨k,hk,rfl,rfl,HK⟩:=hrel
  by_cases hlt:k<10
  ·have hlt':(k:Int)<10:=by omega
   have hidx:(0:Int)≤k∧(k:Int)<10:=by omega
   have c1:=HC.out.1 k hlt
   have c2:=HC.out.2 k hlt
   have hq:((sgN k).toList == (str s).toList)=decide (sgs.getD k []=s):=by
    unfold sgN
    rw [str_eqB]
    exact decide_eq_decide.2 (by rw [show (str s).data.toList=s by simp [str]])
   by_cases e:sgs.getD k []=s
   ·rw [decide_eq_true e] at hq
    have HA:Hid (a=lvN k∧c=opN k):=by
     have q:=HR.out.trans (sign_hit hlt e)
     injection q with q1 q2
     exact ⟨q1,q2⟩
    have HE:=hide e
    clear e
    by_cases k2:k<2
    ·have k2':(k:Int)<2:=by omega
     have hl:lvN k=0:=by unfold lvN;rw [if_pos k2]
     have HL:=hide hl
     clear hl
     go_wp2_with fail
     go_quiet (fail)
     generalize nq=q
     go_wp2_with fail
     go_ret2
     exact ⟨by rw [HA.out.1,HA.out.2,HL.out];rfl,grown_app HG.out (grown_drewN _ _)⟩
    ·have k2':¬ (k:Int)<2:=by omega
     by_cases k6:k<6
     ·have k6':(k:Int)<6:=by omega
      have hl:lvN k=1:=by unfold lvN;rw [if_neg k2,if_pos k6]
      have HL:=hide hl
      clear hl
      go_wp2_with fail
      go_quiet (fail)
      generalize nq=q
      go_wp2_with fail
      go_ret2
      exact ⟨by rw [HA.out.1,HA.out.2,HL.out];rfl,grown_app HG.out (grown_drewN _ _)⟩
     ·have k6':¬ (k:Int)<6:=by omega
      have hl:lvN k=2:=by unfold lvN;rw [if_neg k2,if_neg k6]
      have HL:=hide hl
      clear hl
      go_wp2_with fail
      go_quiet (fail)
      generalize nq=q
      go_wp2_with fail
      go_ret2
      exact ⟨by rw [HA.out.1,HA.out.2,HL.out];rfl,grown_app HG.out (grown_drewN _ _)⟩
   ·rw [decide_eq_false e] at hq
    have HK1:Hid (∀ j,j<k+1→sgs.getD j []≠s):=fun j hj=>by
     by_cases q:j=k
     ·subst q;exact e
     ·exact HK.out j (by omega)
    clear e
    go_wp2_with fail
    go_roundw
    case rel=>exact ⟨k+1,by omega,by go_num,trivial,HK1⟩
    case measure=>simp [intOf];omega
  ·obtain rfl:k=10:=by omega
   have HA:Hid (a=-1∧c=0):=by
    have q:=HR.out.trans (sign_miss HK.out)
    injection q with q1 q2
    exact ⟨q1,q2⟩
   go_wp2_with fail
   go_ret2
   exact ⟨by rw [HA.out.1,HA.out.2];rfl,HG.out⟩
theorem sign_any (s:List UInt8) (w:World):Calls Tryz.prog 102 #[.string (str s)] w fun e w'=>e=.returned (.tuple #[.int .i64 (sign s).1,.int .i64 (sign s).2])∧w.grownBy w' none:=sign_key s w _ _ rfl
end Go.Proofs.YthcfianhdkolhaaGreatDoor.T
