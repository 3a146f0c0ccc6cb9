/- Leaf PLeaf PName Ob Know -/
import Derived.Test.YthcfianhdkolhaaGreatDoorSynTb
import Derived.Test.YthcfianhdkolhaaGreatDoorProg
import Derived.WalkKit
import Derived.WalkSpells
import Derived.Outline
import Derived.LoopTactic
import Derived.Below
import Derived.BigQuiet
import Derived.Carry
import Derived.Laws.Rows
import Derived.Deep.AppendLies
import Derived.Deep.QuietTactic
import Derived.WalkLawsBesides
import Derived.Deep.RegionHeldLaw
namespace Go.Proofs.YthcfianhdkolhaaGreatDoor.T
open Go.RowKit Go.Proofs.YthcfianhdkolhaaGreatDoor.S
set_option linter.unusedVariables false
set_option linter.unusedSimpArgs false
def bytes (s:ByteArray):List UInt8:=s.data.toList
theorem hide {p:Prop} (h:p):Hid p:=h

def Strs (w:World) (na:Option Addr) (nn:Nat) (names:Nat→ByteArray):Prop:=0<nn→∃ b o,na=some ⟨b,o,none⟩∧b<w.heap.size∧∀ j,j<nn→w.cell? ⟨b,o+j,none⟩=some (.string (names j))
end Go.Proofs.YthcfianhdkolhaaGreatDoor.T
namespace Go.Proofs.YthcfianhdkolhaaGreatDoor.T
open Go.RowKit Go.Proofs.YthcfianhdkolhaaGreatDoor.S
set_option maxRecDepth 100000
set_option maxHeartbeats 2000000
set_option linter.unusedVariables false
set_option linter.unusedSimpArgs false
theorem pletter_any (c:Nat) (w:World) (hc:c<256):Calls Tryz.prog 42 #[.int .u8 c] w fun e w'=>e=.returned (.bool (letB c))∧w'=w:=by
 have key:∀ b1 b2 b3 b4,decide (97≤c)=b1→decide (c≤122)=b2→decide (65≤c)=b3→decide (c≤90)=b4→letB c=((b1 && b2) || (b3 && b4)):=fun _ _ _ _ h1 h2 h3 h4=>by unfold letB;rw [h1,h2,h3,h4]
 by_cases a1:97≤c
 ·by_cases a2:c≤122
  ·rw [key true true _ _ (decide_eq_true a1) (decide_eq_true a2) rfl rfl]
   have d1:(97:Int)≤c:=by omega
   have d2:(c:Int)≤122:=by omega
   go_enter Tryz.func42,Tryz.ntmps42
   go_wp2_with fail
   go_ret
   exact ⟨rfl,rfl⟩
  ·rw [key true false true false (decide_eq_true a1) (decide_eq_false a2) (decide_eq_true (by omega)) (decide_eq_false (by omega))]
   have d1:(97:Int)≤c:=by omega
   have d2:¬ (c:Int)≤122:=by omega
   have d3:(65:Int)≤c:=by omega
   have d4:¬ (c:Int)≤90:=by omega
   go_enter Tryz.func42,Tryz.ntmps42
   go_wp2_with fail
   go_ret
   exact ⟨rfl,rfl⟩
 ·by_cases a3:65≤c
  ·have d1:¬ (97:Int)≤c:=by omega
   have d3:(65:Int)≤c:=by omega
   by_cases a4:c≤90
   ·rw [key false true true true (decide_eq_false a1) (decide_eq_true (by omega)) (decide_eq_true a3) (decide_eq_true a4)]
    have d4:(c:Int)≤90:=by omega
    go_enter Tryz.func42,Tryz.ntmps42
    go_wp2_with fail
    go_ret
    exact ⟨rfl,rfl⟩
   ·rw [key false true true false (decide_eq_false a1) (decide_eq_true (by omega)) (decide_eq_true a3) (decide_eq_false a4)]
    have d4:¬ (c:Int)≤90:=by omega
    go_enter Tryz.func42,Tryz.ntmps42
    go_wp2_with fail
    go_ret
    exact ⟨rfl,rfl⟩
  ·rw [key false true false true (decide_eq_false a1) (decide_eq_true (by omega)) (decide_eq_false a3) (decide_eq_true (by omega))]
   have d1:¬ (97:Int)≤c:=by omega
   have d3:¬ (65:Int)≤c:=by omega
   go_enter Tryz.func42,Tryz.ntmps42
   go_wp2_with fail
   go_ret
   exact ⟨rfl,rfl⟩
theorem pdigit_any (c:Nat) (w:World) (hc:c<256):Calls Tryz.prog 45 #[.int .u8 c] w fun e w'=>e=.returned (.bool (digB c))∧w'=w:=by
 have key:∀ b1 b2,decide (48≤c)=b1→decide (c≤57)=b2→digB c=(b1 && b2):=fun _ _ h1 h2=>by unfold digB;rw [h1,h2]
 by_cases a1:48≤c
 ·have d1:(48:Int)≤c:=by omega
  by_cases a2:c≤57
  ·rw [key true true (decide_eq_true a1) (decide_eq_true a2)]
   have d2:(c:Int)≤57:=by omega
   go_enter Tryz.func45,Tryz.ntmps45
   go_wp2_with fail
   go_ret
   exact ⟨rfl,rfl⟩
  ·rw [key true false (decide_eq_true a1) (decide_eq_false a2)]
   have d2:¬ (c:Int)≤57:=by omega
   go_enter Tryz.func45,Tryz.ntmps45
   go_wp2_with fail
   go_ret
   exact ⟨rfl,rfl⟩
 ·rw [key false true (decide_eq_false a1) (decide_eq_true (by omega))]
  have d1:¬ (48:Int)≤c:=by omega
  go_enter Tryz.func45,Tryz.ntmps45
  go_wp2_with fail
  go_ret
  exact ⟨rfl,rfl⟩
theorem bytes_eq (s:ByteArray) (l:List UInt8) (h:¬ bytes s=l):(s.toList == l)=false:=by
 simp only [ByteArray.toList_eq,beq_eq_false_iff_ne,ne_eq]
 exact h
theorem bytes_same (s:ByteArray) (l:List UInt8) (h:bytes s=l):(s.toList == l)=true:=by
 simp only [ByteArray.toList_eq,beq_iff_eq]
 exact h
theorem barred_any (s:ByteArray) (w:World):Calls Tryz.prog 127 #[.string s] w fun e w'=>e=.returned (.bool (reserved.contains (bytes s)))∧w'=w:=by
 by_cases a0:bytes s=[98,114,101,97,107]
 ·have d0:=bytes_same s [98,114,101,97,107] a0
  rw [show reserved.contains (bytes s)=true by rw [a0];decide]
  clear a0
  go_enter Tryz.func127,Tryz.ntmps127
  go_wp2_with fail
  go_ret
  exact ⟨rfl,rfl⟩
 have d0:=bytes_eq s [98,114,101,97,107] a0
 by_cases a1:bytes s=[99,111,117,110,116]
 ·have d1:=bytes_same s [99,111,117,110,116] a1
  rw [show reserved.contains (bytes s)=true by rw [a1];decide]
  clear a1
  go_enter Tryz.func127,Tryz.ntmps127
  go_wp2_with fail
  go_ret
  exact ⟨rfl,rfl⟩
 have d1:=bytes_eq s [99,111,117,110,116] a1
 by_cases a2:bytes s=[101,108,115,101]
 ·have d2:=bytes_same s [101,108,115,101] a2
  rw [show reserved.contains (bytes s)=true by rw [a2];decide]
  clear a2
  go_enter Tryz.func127,Tryz.ntmps127
  go_wp2_with fail
  go_ret
  exact ⟨rfl,rfl⟩
 have d2:=bytes_eq s [101,108,115,101] a2
 by_cases a3:bytes s=[101,120,116,101,114,110]
 ·have d3:=bytes_same s [101,120,116,101,114,110] a3
  rw [show reserved.contains (bytes s)=true by rw [a3];decide]
  clear a3
  go_enter Tryz.func127,Tryz.ntmps127
  go_wp2_with fail
  go_ret
  exact ⟨rfl,rfl⟩
 have d3:=bytes_eq s [101,120,116,101,114,110] a3
 by_cases a4:bytes s=[101,120,116,114,97]
 ·have d4:=bytes_same s [101,120,116,114,97] a4
  rw [show reserved.contains (bytes s)=true by rw [a4];decide]
  clear a4
  go_enter Tryz.func127,Tryz.ntmps127
  go_wp2_with fail
  go_ret
  exact ⟨rfl,rfl⟩
 have d4:=bytes_eq s [101,120,116,114,97] a4
 by_cases a5:bytes s=[102,110]
 ·have d5:=bytes_same s [102,110] a5
  rw [show reserved.contains (bytes s)=true by rw [a5];decide]
  clear a5
  go_enter Tryz.func127,Tryz.ntmps127
  go_wp2_with fail
  go_ret
  exact ⟨rfl,rfl⟩
 have d5:=bytes_eq s [102,110] a5
 by_cases a6:bytes s=[105,102]
 ·have d6:=bytes_same s [105,102] a6
  rw [show reserved.contains (bytes s)=true by rw [a6];decide]
  clear a6
  go_enter Tryz.func127,Tryz.ntmps127
  go_wp2_with fail
  go_ret
  exact ⟨rfl,rfl⟩
 have d6:=bytes_eq s [105,102] a6
 by_cases a7:bytes s=[105,110,116]
 ·have d7:=bytes_same s [105,110,116] a7
  rw [show reserved.contains (bytes s)=true by rw [a7];decide]
  clear a7
  go_enter Tryz.func127,Tryz.ntmps127
  go_wp2_with fail
  go_ret
  exact ⟨rfl,rfl⟩
 have d7:=bytes_eq s [105,110,116] a7
 by_cases a8:bytes s=[108,111,110,103]
 ·have d8:=bytes_same s [108,111,110,103] a8
  rw [show reserved.contains (bytes s)=true by rw [a8];decide]
  clear a8
  go_enter Tryz.func127,Tryz.ntmps127
  go_wp2_with fail
  go_ret
  exact ⟨rfl,rfl⟩
 have d8:=bytes_eq s [108,111,110,103] a8
 by_cases a9:bytes s=[112,117,116]
 ·have d9:=bytes_same s [112,117,116] a9
  rw [show reserved.contains (bytes s)=true by rw [a9];decide]
  clear a9
  go_enter Tryz.func127,Tryz.ntmps127
  go_wp2_with fail
  go_ret
  exact ⟨rfl,rfl⟩
 have d9:=bytes_eq s [112,117,116] a9
 by_cases a10:bytes s=[114,101,116,117,114,110]
 ·have d10:=bytes_same s [114,101,116,117,114,110] a10
  rw [show reserved.contains (bytes s)=true by rw [a10];decide]
  clear a10
  go_enter Tryz.func127,Tryz.ntmps127
  go_wp2_with fail
  go_ret
  exact ⟨rfl,rfl⟩
 have d10:=bytes_eq s [114,101,116,117,114,110] a10
 by_cases a11:bytes s=[115,116,97,116,105,99]
 ·have d11:=bytes_same s [115,116,97,116,105,99] a11
  rw [show reserved.contains (bytes s)=true by rw [a11];decide]
  clear a11
  go_enter Tryz.func127,Tryz.ntmps127
  go_wp2_with fail
  go_ret
  exact ⟨rfl,rfl⟩
 have d11:=bytes_eq s [115,116,97,116,105,99] a11
 by_cases a12:bytes s=[115,116,114,117,99,116]
 ·have d12:=bytes_same s [115,116,114,117,99,116] a12
  rw [show reserved.contains (bytes s)=true by rw [a12];decide]
  clear a12
  go_enter Tryz.func127,Tryz.ntmps127
  go_wp2_with fail
  go_ret
  exact ⟨rfl,rfl⟩
 have d12:=bytes_eq s [115,116,114,117,99,116] a12
 by_cases a13:bytes s=[119,104,105,108,101]
 ·have d13:=bytes_same s [119,104,105,108,101] a13
  rw [show reserved.contains (bytes s)=true by rw [a13];decide]
  clear a13
  go_enter Tryz.func127,Tryz.ntmps127
  go_wp2_with fail
  go_ret
  exact ⟨rfl,rfl⟩
 have d13:=bytes_eq s [119,104,105,108,101] a13
 have hn:reserved.contains (bytes s)=false:=by
  rw [Bool.eq_false_iff]
  intro h
  rw [List.contains_iff_mem] at h
  simp only [reserved,List.mem_cons,List.not_mem_nil,or_false] at h
  rcases h with h|h|h|h|h|h|h|h|h|h|h|h|h|h
  ·exact a0 h
  ·exact a1 h
  ·exact a2 h
  ·exact a3 h
  ·exact a4 h
  ·exact a5 h
  ·exact a6 h
  ·exact a7 h
  ·exact a8 h
  ·exact a9 h
  ·exact a10 h
  ·exact a11 h
  ·exact a12 h
  ·exact a13 h
 rw [hn]
 clear hn a0 a1 a2 a3 a4 a5 a6 a7 a8 a9 a10 a11 a12 a13
 go_enter Tryz.func127,Tryz.ntmps127
 go_wp2_with fail
 go_ret
 exact ⟨rfl,rfl⟩
def insB (c:Nat):Bool:=letB c || digB c || decide (c=95)
theorem pin_any (c:Nat) (w:World) (hc:c<256):Calls Tryz.prog 44 #[.int .u8 c] w fun e w'=>e=.returned (.bool (insB c))∧w'=w:=by
 have hlet:=fun w'=>pletter_any c w' hc
 have hdig:=fun w'=>pdigit_any c w' hc
 obtain ⟨r,hr⟩:∃ r,r=insB c:=⟨_,rfl⟩
 rw [← hr]
 unfold insB at hr
 have HR:=hide hr
 clear hr
 cases hL:letB c with
 | true=>
  rw [hL] at hlet
  obtain rfl:r=true:=by rw [HR.out,hL];rfl
  go_enter Tryz.func44,Tryz.ntmps44
  go_wp2_with fail
  go_at_call 42
  refine (hlet _).mono ?_
  rintro e w1 ⟨rfl,rfl⟩
  go_wp2_with fail
  go_ret
  exact ⟨rfl,rfl⟩
 | false=>
  rw [hL] at hlet
  cases hD:digB c with
  | true=>
   rw [hD] at hdig
   obtain rfl:r=true:=by rw [HR.out,hL,hD];rfl
   go_enter Tryz.func44,Tryz.ntmps44
   go_wp2_with fail
   go_at_call 42
   refine (hlet _).mono ?_
   rintro e w1 ⟨rfl,rfl⟩
   go_wp2_with fail
   go_at_call 45
   refine (hdig _).mono ?_
   rintro e w1 ⟨rfl,rfl⟩
   go_wp2_with fail
   go_ret
   exact ⟨rfl,rfl⟩
  | false=>
   rw [hD] at hdig
   obtain rfl:r=((c:Int) == 95):=by
    rw [HR.out,hL,hD]
    by_cases h:c=95
    ·subst h;rfl
    ·rw [decide_eq_false h];simp;omega
   clear HR
   go_enter Tryz.func44,Tryz.ntmps44
   go_wp2_with fail
   go_at_call 42
   refine (hlet _).mono ?_
   rintro e w1 ⟨rfl,rfl⟩
   go_wp2_with fail
   go_at_call 45
   refine (hdig _).mono ?_
   rintro e w1 ⟨rfl,rfl⟩
   go_wp2_with fail
   go_ret
   exact ⟨rfl,rfl⟩
end Go.Proofs.YthcfianhdkolhaaGreatDoor.T
namespace Go.Proofs.YthcfianhdkolhaaGreatDoor.T
open Go.RowKit Go.Proofs.YthcfianhdkolhaaGreatDoor.S
set_option maxRecDepth 100000
set_option maxHeartbeats 2000000
set_option linter.unusedVariables false
set_option linter.unusedSimpArgs false
theorem sign_at (s:ByteArray) (k:Nat) (hlt:k<s.size):signB (bytes s) k=(letB s[k].toNat || (decide (k≠0) && (digB s[k].toNat || decide (s[k].toNat=95)))):=by
 have e:(bytes s)[k]?=some s[k]:=by
  show s.data.toList[k]?=_
  rw [Array.getElem?_toList]
  exact Array.getElem?_eq_getElem hlt
 unfold signB
 rw [e]
theorem name_bad (s:ByteArray) (k:Nat) (hlt:k<s.size) (h:signB (bytes s) k=false):nameB (bytes s)=false:=by
 unfold nameB
 have:((List.range (bytes s).length).all fun i=>signB (bytes s) i)=false:=by
  rw [Bool.eq_false_iff]
  intro e
  rw [List.all_eq_true] at e
  have:=e k (by rw [List.mem_range];exact hlt)
  rw [h] at this
  cases this
 rw [this]
 simp
theorem pname_any (s:ByteArray) (w:World) (hs:s.size≤maxLen):Calls Tryz.prog 103 #[.string s] w fun e w'=>e=.returned (.bool (nameB (bytes s)))∧w'=w:=by
 have hm:maxLen=9223372036854775807:=rfl
 have hl:(bytes s).length=s.size:=rfl
 by_cases a1:s.size<1
 ·have:nameB (bytes s)=false:=by unfold nameB;rw [hl,decide_eq_false (by omega)];rfl
  rw [this]
  have d1:(s.size:Int)<1:=by omega
  go_enter Tryz.func103,Tryz.ntmps103
  go_wp2_with fail
  go_ret
  exact ⟨rfl,rfl⟩
 have d1:¬ (s.size:Int)<1:=by omega
 by_cases a2:16<s.size
 ·have:nameB (bytes s)=false:=by unfold nameB;rw [hl,decide_eq_true (show 1≤s.size by omega),decide_eq_false (show ¬ s.size≤16 by omega)];rfl
  rw [this]
  have d2:(16:Int)<s.size:=by omega
  go_enter Tryz.func103,Tryz.ntmps103
  go_wp2_with fail
  go_ret
  exact ⟨rfl,rfl⟩
 have d2:¬ (16:Int)<s.size:=by omega
 have h0:0<s.size:=by omega
 have h0i:(0:Int)<s.size:=by omega
 have hlet0:=fun w'=>pletter_any s[0].toNat w' (UInt8.toNat_lt _)
 have hs0:=sign_at s 0 h0
 cases hL0:letB s[0].toNat with
 | false=>
  rw [hL0] at hlet0 hs0
  have HF:Hid (nameB (bytes s)=false):=name_bad s 0 h0 (by rw [hs0];rfl)
  clear hs0
  rw [HF.out]
  go_enter Tryz.func103,Tryz.ntmps103
  go_wp2_with fail
  go_at_call 42
  refine (hlet0 _).mono ?_
  rintro e w1 ⟨rfl,rfl⟩
  go_wp2_with fail
  go_ret
  exact ⟨rfl,rfl⟩
 | true=>
 rw [hL0] at hlet0 hs0
 have HS0:Hid (signB (bytes s) 0=true):=by show _=_;rw [hs0];rfl
 clear hs0
 go_enter Tryz.func103,Tryz.ntmps103
 go_wp2_with fail
 go_at_call 42
 refine (hlet0 _).mono ?_
 rintro e w1 ⟨rfl,rfl⟩
 go_wp2_with fail
 go_loopw [3] (fun i wr=>∃ k:Nat,k≤s.size∧1≤k∧i=.int .i64 k∧wr=w1∧Hid (∀ j,j<k→signB (bytes s) j=true)) (fun i _=>s.size - (intOf i).toNat)
 case atStart=>exact ⟨1,by omega,Nat.le_refl _,rfl,rfl,fun j hj=>(show j=0 by omega) ▸ HS0.out⟩
 case round=>
  clear hlet0
  obtain ⟨k,hk,k1,rfl,rfl,HK⟩:=hrel
  by_cases hlt:k<s.size
  ·have hlt':(k:Int)<s.size:=by omega
   have hidx:(0:Int)≤k∧(k:Int)<s.size:=by omega
   have hb:s[k].toNat<256:=UInt8.toNat_lt _
   have hsig:=sign_at s k hlt
   rw [decide_eq_true (show k≠0 by omega),Bool.true_and] at hsig
   have HE:Hid (signB (bytes s) k=true→∀ j,j<k+1→signB (bytes s) j=true):=fun h j hj=>by
    by_cases e:j=k
    ·subst e;exact h
    ·exact HK.out j (by omega)
   have HF:Hid (signB (bytes s) k=false→nameB (bytes s)=false):=fun h=>name_bad s k hlt h
   have hin:=fun w'=>pin_any s[k].toNat w' hb
   have hsig2:signB (bytes s) k=insB s[k].toNat:=by rw [hsig];unfold insB;rw [Bool.or_assoc]
   clear hsig
   cases hI:insB s[k].toNat with
   | true=>
    rw [hI] at hin hsig2
    go_wp2_with fail
    go_at_call 44
    refine (hin _).mono ?_
    rintro e w1 ⟨rfl,rfl⟩
    go_wp2_with fail
    go_roundw
    case rel=>exact ⟨k+1,by omega,by omega,by go_num,trivial,HE.out hsig2⟩
    case measure=>simp [intOf];omega
   | false=>
    rw [hI] at hin hsig2
    go_wp2_with fail
    go_at_call 44
    refine (hin _).mono ?_
    rintro e w1 ⟨rfl,rfl⟩
    go_wp2_with fail
    go_ret
    exact ⟨by rw [HF.out hsig2];rfl,rfl⟩
  ·have hkn:k=s.size:=by omega
   subst hkn
   have hlt':¬ (s.size:Int)<s.size:=by omega
   have hba:=fun w'=>barred_any s w'
   obtain ⟨rb,hrb⟩:∃ rb,rb=reserved.contains (bytes s):=⟨_,rfl⟩
   have HN:Hid (nameB (bytes s)=!rb):=by
    show _=_
    unfold nameB
    rw [hrb]
    rw [hl,decide_eq_true (show 1≤s.size by omega),decide_eq_true (show s.size≤16 by omega),(List.all_eq_true).2 (fun i hi=>HK.out i (List.mem_range.1 hi))]
    rfl
   rw [← hrb] at hba
   clear hrb
   go_wp2_with fail
   go_at_call 127
   refine (hba _).mono ?_
   rintro e w2 ⟨rfl,rfl⟩
   go_wp2_with fail
   go_ret
   exact ⟨by rw [HN.out];rfl,rfl⟩
end Go.Proofs.YthcfianhdkolhaaGreatDoor.T
namespace Go.Proofs.YthcfianhdkolhaaGreatDoor.T
open Go.RowKit Go.Proofs.YthcfianhdkolhaaGreatDoor.S
set_option maxRecDepth 100000
set_option maxHeartbeats 2000000
set_option linter.unusedVariables false
set_option linter.unusedSimpArgs false
def str (s:List UInt8):ByteArray:=⟨s.toArray⟩
theorem bytes_str (s:List UInt8):bytes (str s)=s:=by simp [bytes,str]
theorem cells_at {W:World} {b:Nat} {cur:Array Value} {t:TypeId} (h:W.heap[b]?=some (.cells cur t (0,0))):∀ o,W.cell? ⟨b,o,none⟩=cur[o]?:=fun o=>by simp [World.cell?,h]
theorem frozen_at {W:World} {b:Nat} {cur:Array Value} {t:TypeId} (h:W.heap[b]?=some (.cells cur t (0,0))):∀ o,W.frozen? ⟨b,o,none⟩=false:=fun o=>by simp only [World.frozen?,h];rfl
theorem grown_below {w w':World} (h:Below w.heap.size w w'):w.grownBy w' none:=⟨h.os,h.tape,h.output,h.size,fun k hk _=>h.block k hk⟩
theorem below_grown {w w':World} (h:w.grownBy w' none):Below w.heap.size w w':=⟨h.os,h.tape,h.output,h.size,fun k hk=>h.block k hk (by simp)⟩
inductive NdO (w:World):Nd→Value→Prop
 | mk (kind:Int) (text:List UInt8) (num:Int) (kids:List Nd) (ka:Option Addr) (kc:Nat) (c:Nat→Nat→Value):text.length≤9223372036854775807→-9223372036854775808≤num→num≤9223372036854775807→kids.length≤kc→kc≤9223372036854775807 →
   (kids≠[]→∃ g o,ka=some ⟨g,o,none⟩∧∀ j i,j<kids.length→i<4→w.cell? ⟨g,o+j*4+i,none⟩=some (c j i)) →
   (∀ j (hj:j<kids.length),NdO w kids[j] (.agg #[c j 0,c j 1,c j 2,c j 3])) →
   NdO w (.mk kind text num kids) (.agg #[.int .i64 kind,.string (str text),.int .i64 num,.slice ka kids.length kc])
theorem NdO.form {w:World} {n:Nd} {v:Value} (h:NdO w n v):∃ kind text num ka kn kc,v=.agg #[.int .i64 kind,.string text,.int .i64 num,.slice ka kn kc]:=by
 cases h with
 | mk kind text num kids ka kc=>exact ⟨_,_,_,_,_,_,rfl⟩
theorem NdO.lg {w:World} {n:Nd} {v:Value} (h:NdO w n v):Lg n:=by
 induction h with
 | mk kind text num kids ka kc c h1 h2 h3 h4 h5 h6 h7 ih=>exact Lg.mk kind text num kids h2 h3 (kids_all (kind:=0) fun j hj=>ih j hj)
def RowO (w:World) (ka:Option Addr) (l:List Nd):Prop:=l≠[]→∃ g o,ka=some ⟨g,o,none⟩∧g<w.heap.size∧∀ j (hj:j<l.length),∃ k0 x0 n0 a0 m0 c0,
 w.cell? ⟨g,o+j*4,none⟩=some (.int .i64 k0)∧w.cell? ⟨g,o+j*4+1,none⟩=some (.string x0)∧w.cell? ⟨g,o+j*4+2,none⟩=some (.int .i64 n0)∧w.cell? ⟨g,o+j*4+3,none⟩=some (.slice a0 m0 c0)∧NdO w l[j] (.agg #[.int .i64 k0,.string x0,.int .i64 n0,.slice a0 m0 c0])
theorem NdO.part {w:World} {kind:Int} {text:List UInt8} {num:Int} {kids:List Nd} {v:Value} (h:NdO w (.mk kind text num kids) v):∃ ka kc,v=.agg #[.int .i64 kind,.string (str text),.int .i64 num,.slice ka kids.length kc]∧text.length≤9223372036854775807∧-9223372036854775808≤num∧num≤9223372036854775807∧kids.length≤kc∧kc≤9223372036854775807∧RowO w ka kids:=by
 cases h with
 | mk _ _ _ _ ka kc c h1 h2 h3 h4 h5 h6 h7=>
  refine ⟨ka,kc,rfl,h1,h2,h3,h4,h5,fun hne=>?_⟩
  obtain ⟨g,o,rfl,hc⟩:=h6 hne
  have hpos:0<kids.length:=List.length_pos_iff.2 hne
  refine ⟨g,o,rfl,World.block_lt_of_cell? w ⟨g,o+0*4+0,none⟩ (hc 0 0 hpos (by omega)),fun j hj=>?_⟩
  have hj':=h7 j hj
  obtain ⟨k0,x0,n0,a0,m0,c0,e⟩:=hj'.form
  have e':c j 0=.int .i64 k0∧c j 1=.string x0∧c j 2=.int .i64 n0∧c j 3=.slice a0 m0 c0:=by simpa using e
  rw [e'.1,e'.2.1,e'.2.2.1,e'.2.2.2] at hj'
  have q0:=hc j 0 hj (by omega)
  have q1:=hc j 1 hj (by omega)
  have q2:=hc j 2 hj (by omega)
  have q3:=hc j 3 hj (by omega)
  rw [e'.1] at q0
  rw [e'.2.1] at q1
  rw [e'.2.2.1] at q2
  rw [e'.2.2.2] at q3
  exact ⟨k0,x0,n0,a0,m0,c0,q0,q1,q2,q3,hj'⟩
theorem RowO.take {w:World} {ka:Option Addr} {l:List Nd} (h:RowO w ka l) (k:Nat):RowO w ka (l.take k):=fun hne=>by
 obtain ⟨g,o,e,hg,hx⟩:=h (fun e=>hne (by rw [e];simp))
 refine ⟨g,o,e,hg,fun j hj=>?_⟩
 have hj':j<l.length:=by rw [List.length_take] at hj;omega
 rw [List.getElem_take]
 exact hx j hj'
theorem RowO.tail {w:World} {g o:Nat} {x:Nd} {l:List Nd} (h:RowO w (some ⟨g,o,none⟩) (x::l)):RowO w (some ⟨g,o+4,none⟩) l:=fun hne=>by
 obtain ⟨g',o',e,hg,hx⟩:=h (by simp)
 obtain ⟨rfl,rfl⟩:g=g'∧o=o':=by simpa using e
 refine ⟨g,o+4,rfl,hg,fun j hj=>?_⟩
 have:=hx (j+1) (by simpa using hj)
 rw [show o+4+j*4=o+(j+1)*4 by omega]
 exact this
def strs (T:List (List UInt8)):List Value:=T.map fun x=>Value.string (str x)
structure Pt (w0 w:World) (b:Nat) (T:List (List UInt8)):Prop where
 low:w0.heap.size≤b
 base:Below w0.heap.size w0 w
 blk:∃ v,w.heap[b]?=some (.cells #[v] 70 (0,0))∧w.ownsRow w0.heap.size 9 1 v T.length (strs T)
structure St (w w':World):Prop where
 size:w.heap.size≤w'.heap.size
 keeps:∀ (k:Nat) (cur:Array Value) (t:TypeId) (z:Nat × Nat),t≠9→t≠70→w.heap[k]?=some (Obj.cells cur t z)→w'.heap[k]?=w.heap[k]?
theorem St.nodes {w w':World} (h:St w w') (k:Nat) (cur:Array Value) (z:Nat × Nat) (hk:w.heap[k]?=some (Obj.cells cur 24 z)):w'.heap[k]?=w.heap[k]?:=h.keeps k cur 24 z (by decide) (by decide) hk
theorem St.refl (w:World):St w w:=⟨Nat.le_refl _,fun _ _ _ _ _ _ _=>rfl⟩
theorem St.trans {a b c:World} (h:St a b) (k:St b c):St a c:=⟨Nat.le_trans h.size k.size,fun i cur t z h9 h36 hi=>by
 have h1:=h.keeps i cur t z h9 h36 hi
 exact (k.keeps i cur t z h9 h36 (h1.trans hi)).trans h1⟩
theorem St.below {w w':World} (h:Below w.heap.size w w'):St w w':=⟨h.size,fun k cur t z _ _ hk=>h.block k (Array.getElem?_eq_some_iff.1 hk).1⟩
theorem St.alloc (w:World) (o:Obj):St w (w.alloc o):=St.below ((Below.refl _ _).alloc (Nat.le_refl _) _)
theorem owns_below {w w':World} {ob e sz:Nat} {v:Value} {n:Nat} {xs:List Value} (h:w.ownsRow ob e sz v n xs) (hb:Below w.heap.size w w'):w'.ownsRow ob e sz v n xs:=by
 refine ⟨h.1,?_⟩
 rcases h.2 with h2|⟨g,cap,cur,hv,hg,hh,r⟩
 ·exact Or.inl h2
 ·exact Or.inr ⟨g,cap,cur,hv,hg,(hb.block g (Array.getElem?_eq_some_iff.1 hh).1).trans hh,r⟩
theorem Pt.below {w0 w w':World} {b:Nat} {T:List (List UInt8)} (h:Pt w0 w b T) (hb:Below w.heap.size w w'):Pt w0 w' b T:=by
 obtain ⟨v,h1,h2⟩:=h.blk
 exact ⟨h.low,h.base.trans (hb.mono h.base.size),v,(hb.block b (Array.getElem?_eq_some_iff.1 h1).1).trans h1,owns_below h2 hb⟩
theorem Pt.alloc {w0 w:World} {b:Nat} {T:List (List UInt8)} (h:Pt w0 w b T) (o:Obj):Pt w0 (w.alloc o) b T:=h.below ((Below.refl _ _).alloc (Nat.le_refl _) _)
theorem info_parts {P:Program} {e:TypeId} {z:Value} {n m:Nat} (h:(P.info? e).map (fun i=>(i.zero,i.size,i.bytes))=some (some z,n,m)):∃ i,P.info? e=some i∧i.zero=some z∧i.size=n∧i.bytes=m:=by
 cases hi:P.info? e with
 | none=>rw [hi] at h;cases h
 | some i=>
  rw [hi] at h
  simp at h
  exact ⟨i,rfl,h.1,h.2.1,h.2.2⟩
theorem info9:(Tryz.prog.info? 9).map (fun i=>(i.zero,i.size,i.bytes))=some (some (.string ⟨#[]⟩),1,16):=by kernel_rfl
theorem list_add {w:World} {ops:Array Oper} {rest:List Oper} {o:Oper} {a:Act} {Q:Exit→Act→World→Prop} (p q:Operand) (hgd:o.guard=none)
  (ho:o.op=.call { callee:=.builtin .append,args:=#[p,q],argTypes:=#[68,68] })
  (ob:Nat) (v:Value) (T:List (List UInt8)) (hs:a.eval p=v) (hown:w.ownsRow ob 9 1 v T.length (strs T))
  (B:Nat) (xs:List (List UInt8)) (hx:a.eval q=.slice (some ⟨B,0,none⟩) xs.length xs.length) (hB:w.heap[B]?=some (.cells (strs xs).toArray 9 (0,0)))
  (hpos:0<xs.length) (hn:T.length+xs.length≤1000000000001) (hob:ob≤w.heap.size)
  (h:∀ g cap w',w'.ownsRow ob 9 1 (.slice (some ⟨g,0,none⟩) (T.length+xs.length) cap) (T++xs).length (strs (T++xs))→w.grownBy w' v.ownBlock→wpList Tryz.prog ops Q rest (a.put o.dst (.slice (some ⟨g,0,none⟩) (T.length+xs.length) cap)) w'):
  wpList Tryz.prog ops Q (o::rest) a w:=by
 obtain ⟨i0,hi,hz0,hz1,hz2⟩:=info_parts info9
 refine wpList_append_lies w hgd p q 68 ho ob 9 i0 (.string ⟨#[]⟩) 1 16 Tryz.underlying68 hi hz0 hz1 hz2 rfl (by decide) v T.length (strs T) hs hown ⟨B,0,none⟩ xs.length xs.length (strs xs) hx (by simp [strs]) (World.news_of_block hB) ?_ hpos (by unfold maxLen;omega) (by omega) hob w.heap.size rfl ?_
 ·intro u hu
  unfold strs at hu
  obtain ⟨x,_,rfl⟩:=List.mem_map.1 hu
  rfl
 ·intro g cap w' h1 h2 _ _
  refine h g cap w' ?_ h2
  have e1:strs (T++xs)=strs T++strs xs:=by unfold strs;rw [List.map_append]
  rw [e1,List.length_append]
  exact h1
theorem Pt.put {w0 w w':World} {b:Nat} {T U:List (List UInt8)} {v u:Value} (h:Pt w0 w b T) (hv:w.heap[b]?=some (.cells #[v] 70 (0,0))) (ho:w.ownsRow w0.heap.size 9 1 v T.length (strs T)) (hg:w.grownBy w' v.ownBlock) (hu:w'.ownsRow w0.heap.size 9 1 u U.length (strs U)):
  Pt w0 (w'.setCell ⟨b,0,none⟩ u) b U∧St w (w'.setCell ⟨b,0,none⟩ u):=by
 have hbl:b<w.heap.size:=(Array.getElem?_eq_some_iff.1 hv).1
 have hvb:v.ownBlock≠some b:=by
  rcases ho.2 with ⟨rfl,_⟩|⟨g,cap,cur,rfl,_,hh,_⟩
  ·simp [Value.ownBlock]
  ·intro e
   have e':g=b:=by simpa [Value.ownBlock] using e
   rw [e',hv] at hh
   simp at hh
 have hvlow:∀ k,v.ownBlock=some k→w0.heap.size≤k∧∃ cur,w.heap[k]?=some (.cells cur 9 (0,0)):=by
  intro k hk
  rcases ho.2 with ⟨rfl,_⟩|⟨g,cap,cur,rfl,hl,hh,_⟩
  ·simp [Value.ownBlock] at hk
  ·have e':g=k:=by simpa [Value.ownBlock] using hk
   subst e'
   exact ⟨hl,cur,hh⟩
 have hb':w'.heap[b]?=some (.cells #[v] 70 (0,0)):=(hg.block b hbl (fun e=>hvb e.symm)).trans hv
 have hub:u.ownBlock≠some b:=by
  rcases hu.2 with ⟨rfl,_⟩|⟨g,cap,cur,rfl,_,hh,_⟩
  ·simp [Value.ownBlock]
  ·intro e
   have e':g=b:=by simpa [Value.ownBlock] using e
   rw [e',hb'] at hh
   simp at hh
 have hsz:w.heap.size≤(w'.setCell ⟨b,0,none⟩ u).heap.size:=by have:=hg.size;simpa [World.setCell] using this
 refine ⟨⟨h.low,⟨hg.os.trans h.base.os,hg.tape.trans h.base.tape,hg.output.trans h.base.output,Nat.le_trans h.base.size hsz,fun k hk=>?_⟩,u,(heap_setCell_same w' b 0 _ 70 _ hb').trans rfl,ownsRow_setCell_other hu hub _⟩,hsz,fun k cur t z h9 h36 hk=>?_⟩
 ·have hk':k<w.heap.size:=Nat.lt_of_lt_of_le hk h.base.size
  refine (Below.heap_setCell _ _ _ k (fun e=>?_)).trans ((hg.block k hk' (fun e=>?_)).trans (h.base.block k hk))
  ·have e':k=b:=e
   have:=h.low
   omega
  ·have:=(hvlow k e.symm).1
   omega
 ·have hk':k<w.heap.size:=(Array.getElem?_eq_some_iff.1 hk).1
  refine (Below.heap_setCell _ _ _ k (fun e=>?_)).trans (hg.block k hk' (fun e=>?_))
  ·have e':k=b:=e
   rw [e',hv] at hk
   simp at hk
   exact h36 hk.2.1.symm
  ·obtain ⟨_,cu,hc⟩:=hvlow k e.symm
   rw [hk] at hc
   simp at hc
   exact h9 hc.2.1
theorem add_any {w0 w:World} {b:Nat} {T:List (List UInt8)} (h:Pt w0 w b T) (B:Nat) (xs:List (List UInt8)) (hB:w.heap[B]?=some (.cells (strs xs).toArray 9 (0,0))) (hpos:0<xs.length) (hn:T.length+xs.length≤1000000000001):
  Calls Tryz.prog 77 #[.pointer (some ⟨b,0,none⟩),.slice (some ⟨B,0,none⟩) xs.length xs.length] w fun e w'=>e=.returned (.tuple #[])∧Pt w0 w' b (T++xs)∧St w w':=by
 obtain ⟨v,h1,h2⟩:=h.blk
 have hf:=frozen_at h1
 have hc:=cells_at h1
 have hbs:=h.base.size
 have HP:Hid (∀ w' u,w.grownBy w' v.ownBlock→w'.ownsRow w0.heap.size 9 1 u (T++xs).length (strs (T++xs))→Pt w0 (w'.setCell ⟨b,0,none⟩ u) b (T++xs)∧St w (w'.setCell ⟨b,0,none⟩ u)):=fun w' u hg hu=>h.put h1 h2 hg hu
 have H2:=hide h2
 have HB:=hide hB
 have HVB:Hid (v.ownBlock≠some b):=by
  rcases h2.2 with ⟨rfl,_⟩|⟨g,cap,cur,rfl,_,hh,_⟩
  ·simp [Hid,Value.ownBlock]
  ·intro e
   have e':g=b:=by simpa [Value.ownBlock] using e
   rw [e',h1] at hh
   simp at hh
 have HCf:Hid (∀ w',w.grownBy w' v.ownBlock→w'.cell? ⟨b,0,none⟩=some v∧w'.frozen? ⟨b,0,none⟩=false):=fun w' hg=>by
  have hb':w'.heap[b]?=some (.cells #[v] 70 (0,0)):=(hg.block b (Array.getElem?_eq_some_iff.1 h1).1 (fun e=>HVB.out e.symm)).trans h1
  exact ⟨cells_at hb' 0,frozen_at hb' 0⟩
 clear h h1 h2 hB
 go_enter Tryz.func77,Tryz.ntmps77
 go_wp2_with (at_builtin;refine list_add (.tmp 8) (.tmp 9) rfl rfl w0.heap.size v T rfl H2.out B xs rfl HB.out hpos hn hbs ?_;intro g cap w' ho hg;obtain ⟨hc1,hf1⟩:=HCf.out w' hg)
 go_end0
 obtain ⟨r1,r2⟩:=HP.out _ _ hg ho
 exact ⟨rfl,r1,r2⟩
end Go.Proofs.YthcfianhdkolhaaGreatDoor.T
namespace Go.Proofs.YthcfianhdkolhaaGreatDoor.T
open Go.RowKit Go.Proofs.YthcfianhdkolhaaGreatDoor.S
set_option maxRecDepth 100000
set_option maxHeartbeats 2000000
set_option linter.unusedVariables false
set_option linter.unusedSimpArgs false
abbrev strange:Ending:=.panicked [{ v:=.iface 67 (.agg #[]),recovered:=false }]
def shapes:List (Bool × Int × Int × Int):=[(false,0,0,0),(false,0,0,700),(true,0,1,700),(true,0,1,1),(true,1,1,700),(true,0,1,1),(true,1,2,2),(true,3,2,700),(true,0,1,1),(false,0,0,0),(false,0,0,0),(true,0,0,0),(false,1,1,700),(false,0,0,700),(true,0,2,2),(false,0,2,2),(false,0,2,3),(false,0,2,2),(false,0,1,1),(false,0,1,1),(false,0,1,1),(false,2147483647,0,0),(false,9223372036854775807,0,0),(true,0,0,0),(true,0,1,1),(false,0,1,700),(true,0,0,0),(true,0,0,700),(false,0,1,1),(false,0,1,1),(false,0,1,1),(false,0,1,1),(false,12,2,2),(false,0,0,0),(false,0,1,1)]
def shp (k:Nat):Bool × Int × Int × Int:=shapes.getD k (false,0,0,0)
def opsP:List (List UInt8 × Int × Int):=[(sSAME,12,0),(sLESS,10,0),(sPLUS,1,1),(sMINUS,2,1),(sOR,8,1),(sXOR,9,1),(sMUL,3,2),(sDIV,5,2),(sREM,6,2),(sAMP,7,2)]
def opr (k:Nat):List UInt8 × Int × Int:=opsP.getD k ([],0,0)
structure Gl (w:World):Prop where
 shp:∀ k:Nat,k<35→w.cell? ⟨0,k*4,none⟩=some (.bool (shp k).1)∧w.cell? ⟨0,k*4+1,none⟩=some (.int .i64 (shp k).2.1)∧w.cell? ⟨0,k*4+2,none⟩=some (.int .i64 (shp k).2.2.1)∧w.cell? ⟨0,k*4+3,none⟩=some (.int .i64 (shp k).2.2.2)
 opr:∀ k:Nat,k<10→w.cell? ⟨4,k*3,none⟩=some (.string (str (opr k).1))∧w.cell? ⟨4,k*3+1,none⟩=some (.int .i64 (opr k).2.1)∧w.cell? ⟨4,k*3+2,none⟩=some (.int .i64 (opr k).2.2)
theorem Gl.lt {w:World} (h:Gl w):0<w.heap.size∧4<w.heap.size:=⟨World.block_lt_of_cell? w ⟨0,0*4,none⟩ (h.shp 0 (by omega)).1,World.block_lt_of_cell? w ⟨4,0*3,none⟩ (h.opr 0 (by omega)).1⟩
theorem Gl.below {w w':World} (h:Gl w) (hb:Below w.heap.size w w'):Gl w':=by
 obtain ⟨l0,l1⟩:=h.lt
 exact ⟨fun k hk=>⟨(hb.cell (p:=⟨0,k*4,none⟩) l0).trans (h.shp k hk).1,(hb.cell (p:=⟨0,k*4+1,none⟩) l0).trans (h.shp k hk).2.1,(hb.cell (p:=⟨0,k*4+2,none⟩) l0).trans (h.shp k hk).2.2.1,(hb.cell (p:=⟨0,k*4+3,none⟩) l0).trans (h.shp k hk).2.2.2⟩,
  fun k hk=>⟨(hb.cell (p:=⟨4,k*3,none⟩) l1).trans (h.opr k hk).1,(hb.cell (p:=⟨4,k*3+1,none⟩) l1).trans (h.opr k hk).2.1,(hb.cell (p:=⟨4,k*3+2,none⟩) l1).trans (h.opr k hk).2.2⟩⟩
def knB (kind:Int) (text:List UInt8) (num:Int) (len:Nat):Bool:=decide (1≤kind∧kind≤34) && txtB (shp kind.toNat).1 text && decide (0≤num∧num≤(shp kind.toNat).2.1∧(shp kind.toNat).2.2.1≤len∧(len:Int)≤(shp kind.toNat).2.2.2)
theorem kn_no {kind:Int} {text:List UInt8} {num:Int} {len:Nat} (h:¬ (1≤kind∧kind≤34)):knB kind text num len=false:=by unfold knB;rw [decide_eq_false h];rfl
theorem txt_empty (s:List UInt8):(str s).toList.isEmpty=decide (s=[]):=by
 have e:(str s).toList=s:=by rw [ByteArray.toList_eq];simp [str]
 rw [e]
 cases s<;>simp
theorem know_any (kind:Int) (text:List UInt8) (num:Int) (ka:Option Addr) (len kc:Nat) (w:World) (hG:Gl w) (ht:text.length≤9223372036854775807) (hl:len≤9223372036854775807):
  Calls Tryz.prog 75 #[.agg #[.int .i64 kind,.string (str text),.int .i64 num,.slice ka len kc]] w fun e w'=>((knB kind text num len=true∧e=.returned (.tuple #[]))∨(knB kind text num len=false∧e=strange))∧Below w.heap.size w w':=by
 have hnm:=fun w=>pname_any (str text) w ht
 by_cases a1:kind<1
 ·have HKn:Hid (knB kind text num len=false):=kn_no (by omega)
  have HB:Hid (Below w.heap.size w (w.alloc (.cells #[.int .i64 kind,.string (str text),.int .i64 num,.slice ka len kc] 24))):=(Below.refl _ _).alloc (Nat.le_refl _) _
  go_enter Tryz.func75,Tryz.ntmps75
  go_wp2_with fail
  exact ⟨rfl,Or.inr ⟨HKn.out,rfl⟩,HB.out⟩
 by_cases a2:35≤kind
 ·have HKn:Hid (knB kind text num len=false):=kn_no (by omega)
  have HB:Hid (Below w.heap.size w (w.alloc (.cells #[.int .i64 kind,.string (str text),.int .i64 num,.slice ka len kc] 24))):=(Below.refl _ _).alloc (Nat.le_refl _) _
  go_enter Tryz.func75,Tryz.ntmps75
  go_wp2_with fail
  exact ⟨rfl,Or.inr ⟨HKn.out,rfl⟩,HB.out⟩
 obtain ⟨k,rfl⟩:∃ k:Nat,kind=k:=⟨kind.toNat,by omega⟩
 have hk:k<35:=by omega
 obtain ⟨g0,g1,g2,g3⟩:=hG.shp k hk
 have HKe:Hid (∀ b,txtB (shp k).1 text=b→knB k text num len=(b && decide (0≤num∧num≤(shp k).2.1∧(shp k).2.2.1≤len∧(len:Int)≤(shp k).2.2.2))):=fun b hb=>by
  show knB k text num len=_
  unfold knB
  rw [decide_eq_true (show (1:Int)≤k∧(k:Int)≤34 by omega),Bool.true_and,Int.toNat_natCast,hb]
 have hw:=hG.lt
 generalize shp k=sh at *
 obtain ⟨sb,mx,least,most⟩:=sh
 simp only at g0 g1 g2 g3 HKe
 have hidx:(0:Int)≤k∧(k:Int)<35:=by omega
 have HB:Hid (Below w.heap.size w ((w.alloc (.cells #[.int .i64 k,.string (str text),.int .i64 num,.slice ka len kc] 24)).alloc (.cells #[.bool sb,.int .i64 mx,.int .i64 least,.int .i64 most] 110))):=((Below.refl _ _).alloc (Nat.le_refl _) _).alloc (by simp) _
 have hte:=txt_empty text
 have hE:txtB false text=decide (text=[]):=by simp [txtB]
 have hE2:txtB true text=nameB text:=by simp [txtB]
 cases sb with
 | false=>
  clear hnm hE2
  by_cases c1:text=[]
  ·rw [decide_eq_true c1] at hte hE
   have HE:=hide hE
   clear hE c1
   by_cases c2:num<0
   ·have HKn:Hid (knB k text num len=false):=by show _=_;rw [HKe.out _ HE.out,decide_eq_false (by omega)];rfl
    clear HKe
    go_enter Tryz.func75,Tryz.ntmps75
    go_wp2_with fail
    exact ⟨rfl,Or.inr ⟨HKn.out,rfl⟩,HB.out⟩
   by_cases c3:mx<num
   ·have HKn:Hid (knB k text num len=false):=by show _=_;rw [HKe.out _ HE.out,decide_eq_false (by omega)];rfl
    clear HKe
    go_enter Tryz.func75,Tryz.ntmps75
    go_wp2_with fail
    exact ⟨rfl,Or.inr ⟨HKn.out,rfl⟩,HB.out⟩
   by_cases c4:(len:Int)<least
   ·have HKn:Hid (knB k text num len=false):=by show _=_;rw [HKe.out _ HE.out,decide_eq_false (by omega)];rfl
    clear HKe
    go_enter Tryz.func75,Tryz.ntmps75
    go_wp2_with fail
    exact ⟨rfl,Or.inr ⟨HKn.out,rfl⟩,HB.out⟩
   by_cases c5:most<(len:Int)
   ·have HKn:Hid (knB k text num len=false):=by show _=_;rw [HKe.out _ HE.out,decide_eq_false (by omega)];rfl
    clear HKe
    go_enter Tryz.func75,Tryz.ntmps75
    go_wp2_with fail
    exact ⟨rfl,Or.inr ⟨HKn.out,rfl⟩,HB.out⟩
   have HKn:Hid (knB k text num len=true):=by show _=_;rw [HKe.out _ HE.out,decide_eq_true (by omega)];rfl
   clear HKe
   go_enter Tryz.func75,Tryz.ntmps75
   go_wp2_with fail
   go_end0
   exact ⟨Or.inl ⟨HKn.out,rfl⟩,HB.out⟩
  ·rw [decide_eq_false c1] at hte hE
   have HKn:Hid (knB k text num len=false):=by show _=_;rw [HKe.out _ hE];rfl
   clear HKe hE c1
   go_enter Tryz.func75,Tryz.ntmps75
   go_wp2_with fail
   exact ⟨rfl,Or.inr ⟨HKn.out,rfl⟩,HB.out⟩
 | true=>
  clear hE hte
  cases hnb:nameB text with
  | true=>
   rw [hnb] at hE2
   have HE:=hide hE2
   clear hE2
   by_cases c2:num<0
   ·have HKn:Hid (knB k text num len=false):=by show _=_;rw [HKe.out _ HE.out,decide_eq_false (by omega)];rfl
    clear HKe
    go_enter Tryz.func75,Tryz.ntmps75
    go_wp2_with fail
    go_at_call 103
    refine (hnm _).mono ?_
    rintro e w1 ⟨rfl,rfl⟩
    rw [bytes_str,hnb]
    go_wp2_with fail
    exact ⟨rfl,Or.inr ⟨HKn.out,rfl⟩,HB.out⟩
   by_cases c3:mx<num
   ·have HKn:Hid (knB k text num len=false):=by show _=_;rw [HKe.out _ HE.out,decide_eq_false (by omega)];rfl
    clear HKe
    go_enter Tryz.func75,Tryz.ntmps75
    go_wp2_with fail
    go_at_call 103
    refine (hnm _).mono ?_
    rintro e w1 ⟨rfl,rfl⟩
    rw [bytes_str,hnb]
    go_wp2_with fail
    exact ⟨rfl,Or.inr ⟨HKn.out,rfl⟩,HB.out⟩
   by_cases c4:(len:Int)<least
   ·have HKn:Hid (knB k text num len=false):=by show _=_;rw [HKe.out _ HE.out,decide_eq_false (by omega)];rfl
    clear HKe
    go_enter Tryz.func75,Tryz.ntmps75
    go_wp2_with fail
    go_at_call 103
    refine (hnm _).mono ?_
    rintro e w1 ⟨rfl,rfl⟩
    rw [bytes_str,hnb]
    go_wp2_with fail
    exact ⟨rfl,Or.inr ⟨HKn.out,rfl⟩,HB.out⟩
   by_cases c5:most<(len:Int)
   ·have HKn:Hid (knB k text num len=false):=by show _=_;rw [HKe.out _ HE.out,decide_eq_false (by omega)];rfl
    clear HKe
    go_enter Tryz.func75,Tryz.ntmps75
    go_wp2_with fail
    go_at_call 103
    refine (hnm _).mono ?_
    rintro e w1 ⟨rfl,rfl⟩
    rw [bytes_str,hnb]
    go_wp2_with fail
    exact ⟨rfl,Or.inr ⟨HKn.out,rfl⟩,HB.out⟩
   have HKn:Hid (knB k text num len=true):=by show _=_;rw [HKe.out _ HE.out,decide_eq_true (by omega)];rfl
   clear HKe
   go_enter Tryz.func75,Tryz.ntmps75
   go_wp2_with fail
   go_at_call 103
   refine (hnm _).mono ?_
   rintro e w1 ⟨rfl,rfl⟩
   rw [bytes_str,hnb]
   go_wp2_with fail
   go_end0
   exact ⟨Or.inl ⟨HKn.out,rfl⟩,HB.out⟩
  | false=>
   rw [hnb] at hE2
   have HKn:Hid (knB k text num len=false):=by show _=_;rw [HKe.out _ hE2];rfl
   clear HKe hE2
   go_enter Tryz.func75,Tryz.ntmps75
   go_wp2_with fail
   go_at_call 103
   refine (hnm _).mono ?_
   rintro e w1 ⟨rfl,rfl⟩
   rw [bytes_str,hnb]
   go_wp2_with fail
   exact ⟨rfl,Or.inr ⟨HKn.out,rfl⟩,HB.out⟩
theorem knowKind_any (kind:Int) (text:List UInt8) (num:Int) (ka:Option Addr) (len kc:Nat) (want:Int) (w:World) (hG:Gl w) (ht:text.length≤9223372036854775807) (hl:len≤9223372036854775807):
  Calls Tryz.prog 55 #[.agg #[.int .i64 kind,.string (str text),.int .i64 num,.slice ka len kc],.int .i64 want] w fun e w'=>((kind=want∧knB kind text num len=true∧e=.returned (.tuple #[]))∨(¬ (kind=want∧knB kind text num len=true)∧e=strange))∧Below w.heap.size w w':=by
 have hB:Below w.heap.size w (w.alloc (.cells #[.int .i64 kind,.string (str text),.int .i64 num,.slice ka len kc] 24)):=(Below.refl _ _).alloc (Nat.le_refl _) _
 have hkn:=know_any kind text num ka len kc _ (hG.below hB) ht hl
 have HB:=hide hB
 clear hB hG
 by_cases a1:kind=want
 ·have HA:=hide a1
  have a2:(kind != want)=false:=by simp [a1]
  clear a1
  go_enter Tryz.func55,Tryz.ntmps55
  go_wp2_with fail
  go_at_call 75
  refine hkn.mono ?_
  rintro e w1 ⟨⟨hk,rfl⟩|⟨hk,rfl⟩,hb⟩
  ·have HK:=hide hk
   have HB1:=hide (HB.out.trans (hb.mono (by simp)))
   clear hk hb HB
   go_wp2_with fail
   go_end0
   exact ⟨Or.inl ⟨HA.out,HK.out,rfl⟩,HB1.out⟩
  ·have HK:=hide hk
   have HB1:=hide (HB.out.trans (hb.mono (by simp)))
   clear hk hb HB
   exact ⟨rfl,Or.inr ⟨fun h=>by rw [HK.out] at h;exact absurd h.2 (by decide),rfl⟩,HB1.out⟩
 ·have HA:=hide a1
  have a2:(kind != want)=true:=by simp [a1]
  clear a1 hkn
  go_enter Tryz.func55,Tryz.ntmps55
  go_wp2_with fail
  exact ⟨rfl,Or.inr ⟨fun h=>HA.out h.1,rfl⟩,HB.out⟩
end Go.Proofs.YthcfianhdkolhaaGreatDoor.T
