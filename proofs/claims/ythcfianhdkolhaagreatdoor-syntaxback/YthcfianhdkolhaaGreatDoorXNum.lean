/- XLeaf XSign XRow XPLeaf XNum -/
import Derived.Test.YthcfianhdkolhaaGreatDoorProg
import Derived.WalkKit
import Derived.WalkSpells
import Derived.Outline
import Derived.LoopTactic
import Derived.Laws.Cover1
import Derived.BigQuiet
import Derived.Lib.ParseIntBCases
namespace Go.Proofs.YthcfianhdkolhaaGreatDoor.X
open Go.RowKit
set_option linter.unusedVariables false
set_option linter.unusedSimpArgs false
theorem hide {p:Prop} (h:p):Hid p:=h
def letB (c:Nat):Bool:=(decide (97≤c) && decide (c≤122)) || (decide (65≤c) && decide (c≤90))
def digB (c:Nat):Bool:=decide (48≤c) && decide (c≤57)
def insB (c:Nat):Bool:=letB c || digB c || decide (c=95)
def aboveB (a b:ByteArray):Bool:=decide (b.size<a.size) || (decide (a.size=b.size) && !(Op.bytesLess a.toList b.toList || a.toList == b.toList))
def Strs (w:World) (na:Option Addr) (nn:Nat) (names:Nat→ByteArray):Prop:=0<nn→∃ b o,na=some ⟨b,o,none⟩∧b<w.heap.size∧∀ j,j<nn→w.cell? ⟨b,o+j,none⟩=some (.string (names j))
def signs:List (List UInt8):=[[46,46,46],[61,61],[123],[125],[40],[41],[59],[44],[46],[61],[60],[43],[45],[42],[47],[37],[38],[124],[94],[33]]
def sigN (j:Nat):ByteArray:=⟨(signs.getD j []).toArray⟩
end Go.Proofs.YthcfianhdkolhaaGreatDoor.X
namespace Go.Proofs.YthcfianhdkolhaaGreatDoor.X
open Go.RowKit
set_option linter.unusedVariables false
set_option linter.unusedSimpArgs false
def pre (s:ByteArray) (j:Nat):Bool:=decide ((sigN j).size≤s.size) && ((s.extract 0 (sigN j).size).toList == (sigN j).toList)
def signFrom (s:ByteArray):Nat→Nat→ByteArray
 | _,0=>⟨#[]⟩
 | j,n+1=>if pre s j then sigN j else signFrom s (j+1) n
def signOf (s:ByteArray):ByteArray:=signFrom s 0 20
theorem signFrom_skip (s:ByteArray):∀ n j,(∀ i,j≤i→i<j+n→pre s i=false)→signFrom s j n=⟨#[]⟩
 | 0,_,_=>rfl
 | n+1,j,h=>by
  unfold signFrom
  rw [h j (Nat.le_refl _) (by omega)]
  exact signFrom_skip s n (j+1) (fun i h1 h2=>h i (by omega) (by omega))
theorem signFrom_at (s:ByteArray):∀ n j k,j≤k→k<j+n→(∀ i,j≤i→i<k→pre s i=false)→pre s k=true→signFrom s j n=sigN k
 | 0,_,_,h1,h2,_,_=>by omega
 | n+1,j,k,h1,h2,h,hp=>by
  unfold signFrom
  by_cases e:j=k
  ·subst e;rw [hp];rfl
  ·rw [h j (Nat.le_refl _) (by omega)]
   exact signFrom_at s n (j+1) k (by omega) (by omega) (fun i h3 h4=>h i (by omega) h4) hp
end Go.Proofs.YthcfianhdkolhaaGreatDoor.X
namespace Go.Proofs.YthcfianhdkolhaaGreatDoor.X
open Go.RowKit
set_option linter.unusedVariables false
set_option linter.unusedSimpArgs false
def byteAt (s:ByteArray) (i:Nat):Nat:=match s.data[i]? with|some c=>c.toNat|none=>0
theorem byteAt_get (s:ByteArray) (i:Nat) (h:i<s.size):byteAt s i=(s[i]'h).toNat:=by
 unfold byteAt
 rw [Array.getElem?_eq_getElem (show i<s.data.size from h)]
 rfl
def mostW:ByteArray:=⟨#[50,49,52,55,52,56,51,54,52,55]⟩
def mostL:ByteArray:=⟨#[57,50,50,51,51,55,50,48,51,54,56,53,52,55,55,53,56,48,55]⟩
def rowC (x most:ByteArray):Int:=
 if !((List.range x.size).all fun i=>digB (byteAt x i)) then 2 else if 1<x.size∧byteAt x 0=48 then 2 else if aboveB x most then 6 else 0
def isL (s:ByteArray):Bool:=decide (byteAt s (s.size - 1)=76)
def rowText (s:ByteArray):ByteArray:=if isL s then s.extract 0 (s.size - 1) else s
def rowCode (s:ByteArray):Int:=rowC (rowText s) (if isL s then mostL else mostW)
end Go.Proofs.YthcfianhdkolhaaGreatDoor.X
namespace Go.Proofs.YthcfianhdkolhaaGreatDoor.X
open Go.RowKit
set_option linter.unusedVariables false
set_option linter.unusedSimpArgs false
theorem pletter_any (c:Nat) (w:World) (hc:c<256):Calls Tryz.prog 42 #[.int .u8 c] w fun e w'=>e=.returned (.bool (letB c))∧w'=w:=by
 have key:∀ b1 b2 b3 b4,decide (97≤c)=b1→decide (c≤122)=b2→decide (65≤c)=b3→decide (c≤90)=b4→letB c=((b1 && b2) || (b3 && b4)):=fun _ _ _ _ h1 h2 h3 h4=>by unfold letB;rw [h1,h2,h3,h4]
 by_cases a1:97≤c
 ·by_cases a2:c≤122
  ·rw [key true true _ _ (decide_eq_true a1) (decide_eq_true a2) rfl rfl]
   have d1:(97:Int)≤c:=by omega
   have d2:(c:Int)≤122:=by omega
   go_enter Tryz.func42,Tryz.ntmps42
   go_wp2_with fail
   go_ret
   exact ⟨rfl,rfl⟩
  ·rw [key true false true false (decide_eq_true a1) (decide_eq_false a2) (decide_eq_true (by omega)) (decide_eq_false (by omega))]
   have d1:(97:Int)≤c:=by omega
   have d2:¬ (c:Int)≤122:=by omega
   have d3:(65:Int)≤c:=by omega
   have d4:¬ (c:Int)≤90:=by omega
   go_enter Tryz.func42,Tryz.ntmps42
   go_wp2_with fail
   go_ret
   exact ⟨rfl,rfl⟩
 ·by_cases a3:65≤c
  ·have d1:¬ (97:Int)≤c:=by omega
   have d3:(65:Int)≤c:=by omega
   by_cases a4:c≤90
   ·rw [key false true true true (decide_eq_false a1) (decide_eq_true (by omega)) (decide_eq_true a3) (decide_eq_true a4)]
    have d4:(c:Int)≤90:=by omega
    go_enter Tryz.func42,Tryz.ntmps42
    go_wp2_with fail
    go_ret
    exact ⟨rfl,rfl⟩
   ·rw [key false true true false (decide_eq_false a1) (decide_eq_true (by omega)) (decide_eq_true a3) (decide_eq_false a4)]
    have d4:¬ (c:Int)≤90:=by omega
    go_enter Tryz.func42,Tryz.ntmps42
    go_wp2_with fail
    go_ret
    exact ⟨rfl,rfl⟩
  ·rw [key false true false true (decide_eq_false a1) (decide_eq_true (by omega)) (decide_eq_false a3) (decide_eq_true (by omega))]
   have d1:¬ (97:Int)≤c:=by omega
   have d3:¬ (65:Int)≤c:=by omega
   go_enter Tryz.func42,Tryz.ntmps42
   go_wp2_with fail
   go_ret
   exact ⟨rfl,rfl⟩
theorem pdigit_any (c:Nat) (w:World) (hc:c<256):Calls Tryz.prog 45 #[.int .u8 c] w fun e w'=>e=.returned (.bool (digB c))∧w'=w:=by
 have key:∀ b1 b2,decide (48≤c)=b1→decide (c≤57)=b2→digB c=(b1 && b2):=fun _ _ h1 h2=>by unfold digB;rw [h1,h2]
 by_cases a1:48≤c
 ·have d1:(48:Int)≤c:=by omega
  by_cases a2:c≤57
  ·rw [key true true (decide_eq_true a1) (decide_eq_true a2)]
   have d2:(c:Int)≤57:=by omega
   go_enter Tryz.func45,Tryz.ntmps45
   go_wp2_with fail
   go_ret
   exact ⟨rfl,rfl⟩
  ·rw [key true false (decide_eq_true a1) (decide_eq_false a2)]
   have d2:¬ (c:Int)≤57:=by omega
   go_enter Tryz.func45,Tryz.ntmps45
   go_wp2_with fail
   go_ret
   exact ⟨rfl,rfl⟩
 ·rw [key false true (decide_eq_false a1) (decide_eq_true (by omega))]
  have d1:¬ (48:Int)≤c:=by omega
  go_enter Tryz.func45,Tryz.ntmps45
  go_wp2_with fail
  go_ret
  exact ⟨rfl,rfl⟩
theorem pin_any (c:Nat) (w:World) (hc:c<256):Calls Tryz.prog 44 #[.int .u8 c] w fun e w'=>e=.returned (.bool (insB c))∧w'=w:=by
 have hlet:=fun w'=>pletter_any c w' hc
 have hdig:=fun w'=>pdigit_any c w' hc
 obtain ⟨r,hr⟩:∃ r,r=insB c:=⟨_,rfl⟩
 rw [← hr]
 unfold insB at hr
 have HR:=hide hr
 clear hr
 cases hL:letB c with
 | true=>
  rw [hL] at hlet
  obtain rfl:r=true:=by rw [HR.out,hL];rfl
  go_enter Tryz.func44,Tryz.ntmps44
  go_wp2_with fail
  go_at_call 42
  refine (hlet _).mono ?_
  rintro e w1 ⟨rfl,rfl⟩
  go_wp2_with fail
  go_ret
  exact ⟨rfl,rfl⟩
 | false=>
  rw [hL] at hlet
  cases hD:digB c with
  | true=>
   rw [hD] at hdig
   obtain rfl:r=true:=by rw [HR.out,hL,hD];rfl
   go_enter Tryz.func44,Tryz.ntmps44
   go_wp2_with fail
   go_at_call 42
   refine (hlet _).mono ?_
   rintro e w1 ⟨rfl,rfl⟩
   go_wp2_with fail
   go_at_call 45
   refine (hdig _).mono ?_
   rintro e w1 ⟨rfl,rfl⟩
   go_wp2_with fail
   go_ret
   exact ⟨rfl,rfl⟩
  | false=>
   rw [hD] at hdig
   obtain rfl:r=((c:Int) == 95):=by
    rw [HR.out,hL,hD]
    by_cases h:c=95
    ·subst h;rfl
    ·rw [decide_eq_false h];simp;omega
   clear HR
   go_enter Tryz.func44,Tryz.ntmps44
   go_wp2_with fail
   go_at_call 42
   refine (hlet _).mono ?_
   rintro e w1 ⟨rfl,rfl⟩
   go_wp2_with fail
   go_at_call 45
   refine (hdig _).mono ?_
   rintro e w1 ⟨rfl,rfl⟩
   go_wp2_with fail
   go_ret
   exact ⟨rfl,rfl⟩
end Go.Proofs.YthcfianhdkolhaaGreatDoor.X
namespace Go.Proofs.YthcfianhdkolhaaGreatDoor.X
set_option linter.unusedVariables false
set_option linter.unusedSimpArgs false
def AllD (s:List UInt8):Prop:=∀ c,c∈s→48≤c.toNat∧c.toNat≤57
def valN:List UInt8→Nat→Nat
 | [],a=>a
 | c::r,a=>valN r (10*a+(c.toNat - 48))
theorem val_bounds:∀ (s:List UInt8) (a:Nat),AllD s→a*10 ^ s.length≤valN s a∧valN s a+1≤(a+1)*10 ^ s.length
 | [],a,_=>by simp [valN]
 | c::r,a,h=>by
  have hc:=h c (by simp)
  obtain ⟨h1,h2⟩:=val_bounds r (10*a+(c.toNat - 48)) (fun x hx=>h x (by simp [hx]))
  simp only [List.length_cons,valN,Nat.pow_succ]
  have e1:a*(10 ^ r.length*10)=10*a*10 ^ r.length:=by rw [Nat.mul_comm (10 ^ r.length) 10,← Nat.mul_assoc,Nat.mul_comm a 10]
  have e2:(a+1)*(10 ^ r.length*10)=(10*a+10)*10 ^ r.length:=by rw [Nat.mul_comm (10 ^ r.length) 10,← Nat.mul_assoc,Nat.mul_comm (a+1) 10,Nat.mul_add]
  have l1:10*a*10 ^ r.length≤(10*a+(c.toNat - 48))*10 ^ r.length:=Nat.mul_le_mul_right _ (by omega)
  have l2:(10*a+(c.toNat - 48)+1)*10 ^ r.length≤(10*a+10)*10 ^ r.length:=Nat.mul_le_mul_right _ (by omega)
  rw [e1,e2]
  exact ⟨Nat.le_trans l1 h1,Nat.le_trans h2 l2⟩
theorem val_ge (s:List UInt8) (a:Nat) (h:AllD s):a≤valN s a:=by
 have h1:=(val_bounds s a h).1
 have h2:a*1≤a*10 ^ s.length:=Nat.mul_le_mul_left _ (Nat.pow_pos (by omega))
 omega
theorem val_lt {x y:List UInt8} {a b:Nat} (hx:AllD x) (hy:AllD y) (hl:x.length=y.length) (h:a<b):valN x a<valN y b:=by
 have h1:=(val_bounds x a hx).2
 have h2:=(val_bounds y b hy).1
 have h3:(a+1)*10 ^ x.length≤b*10 ^ y.length:=by rw [hl];exact Nat.mul_le_mul_right _ h
 omega
theorem less_val:∀ (x y:List UInt8) (a:Nat),AllD x→AllD y→x.length=y.length→(Op.bytesLess x y=true→valN x a<valN y a)∧(Op.bytesLess x y=false→valN y a≤valN x a)
 | [],[],a,_,_,_=>by simp [Op.bytesLess,valN]
 | [],d::y,_,_,_,h=>by simp at h
 | c::x,[],_,_,_,h=>by simp at h
 | c::x,d::y,a,hx,hy,h=>by
  have hl:x.length=y.length:=by simpa using h
  have hx':AllD x:=fun z hz=>hx z (by simp [hz])
  have hy':AllD y:=fun z hz=>hy z (by simp [hz])
  have hc:=hx c (by simp)
  have hd:=hy d (by simp)
  simp only [Op.bytesLess,valN]
  by_cases e:c<d
  ·have e':c.toNat<d.toNat:=UInt8.lt_iff_toNat_lt.1 e
   simp only [e,decide_true,Bool.true_or,true_implies,Bool.true_eq_false,false_implies,and_true]
   exact val_lt hx' hy' hl (by omega)
  ·by_cases e2:c=d
   ·subst e2
    have ih:=less_val x y (10*a+(c.toNat - 48)) hx' hy' hl
    simp only [e,decide_false,Bool.false_or,beq_self_eq_true,Bool.true_and]
    exact ih
   ·have e':d.toNat<c.toNat:=by
     have h1:¬ c.toNat<d.toNat:=fun q=>e (UInt8.lt_iff_toNat_lt.2 q)
     have h2:c.toNat≠d.toNat:=fun q=>e2 (UInt8.toNat_inj.1 q)
     omega
    have e3:(c == d)=false:=by simpa using e2
    simp only [e,decide_false,Bool.false_or,e3,Bool.false_and,Bool.false_eq_true,false_implies,true_implies,true_and]
    exact Nat.le_of_lt (val_lt hy' hx' hl.symm (by omega))
theorem less_ne:∀ (x y:List UInt8) (a:Nat),AllD x→AllD y→x.length=y.length→valN x a=valN y a→x=y
 | [],[],a,_,_,_,_=>rfl
 | [],d::y,_,_,_,h,_=>by simp at h
 | c::x,[],_,_,_,h,_=>by simp at h
 | c::x,d::y,a,hx,hy,h,e=>by
  have hl:x.length=y.length:=by simpa using h
  have hx':AllD x:=fun z hz=>hx z (by simp [hz])
  have hy':AllD y:=fun z hz=>hy z (by simp [hz])
  have hc:=hx c (by simp)
  have hd:=hy d (by simp)
  simp only [valN] at e
  rcases Nat.lt_trichotomy c.toNat d.toNat with q|q|q
  ·have:=val_lt (a:=10*a+(c.toNat - 48)) (b:=10*a+(d.toNat - 48)) hx' hy' hl (by omega)
   omega
  ·obtain rfl:=UInt8.toNat_inj.1 q
   rw [less_ne x y _ hx' hy' hl e]
  ·have:=val_lt (a:=10*a+(d.toNat - 48)) (b:=10*a+(c.toNat - 48)) hy' hx' hl.symm (by omega)
   omega
theorem val_one {s:List UInt8} (h:AllD s) (hne:s≠[]) (hz:∀ c,s.head?=some c→c.toNat≠48):10 ^ (s.length - 1)≤valN s 0:=by
 cases s with
 | nil=>exact absurd rfl hne
 | cons c r=>
  have hc:=h c (by simp)
  have h0:=hz c rfl
  have:=(val_bounds r (10*0+(c.toNat - 48)) (fun x hx=>h x (by simp [hx]))).1
  have h1:1*10 ^ r.length≤(10*0+(c.toNat - 48))*10 ^ r.length:=Nat.mul_le_mul_right _ (by omega)
  simp only [List.length_cons,Nat.add_sub_cancel,valN]
  omega
theorem above_val {x m:List UInt8} (hx:AllD x) (hxz:1<x.length→∀ c,x.head?=some c→c.toNat≠48) (hm:AllD m) (hmz:∀ c,m.head?=some c→c.toNat≠48) (hmn:m≠[]) (hxn:x≠[]):
  (decide (m.length<x.length) || (decide (x.length=m.length) && !(Op.bytesLess x m || x == m)))=decide (valN m 0<valN x 0):=by
 have hml:0<m.length:=List.length_pos_iff.2 hmn
 rcases Nat.lt_trichotomy x.length m.length with q|q|q
 ·have h1:=(val_bounds x 0 hx).2
  have h2:=val_one hm hmn hmz
  have h3:10 ^ x.length≤10 ^ (m.length - 1):=Nat.pow_le_pow_right (by omega) (by omega)
  rw [decide_eq_false (show ¬ m.length<x.length by omega),decide_eq_false (show ¬ x.length=m.length by omega),decide_eq_false (show ¬ valN m 0<valN x 0 by omega)]
  rfl
 ·rw [decide_eq_false (show ¬ m.length<x.length by omega),decide_eq_true q]
  have hl:=less_val x m 0 hx hm q
  cases hb:Op.bytesLess x m with
  | true=>rw [decide_eq_false (show ¬ valN m 0<valN x 0 by have:=hl.1 hb;omega)];rfl
  | false=>
   have h1:=hl.2 hb
   by_cases e:x=m
   ·subst e;simp
   ·have h2:valN m 0≠valN x 0:=fun e2=>e (less_ne x m 0 hx hm q e2.symm)
    rw [decide_eq_true (show valN m 0<valN x 0 by omega)]
    simp [e]
 ·have h1:=(val_bounds m 0 hm).2
  have h2:=val_one hx hxn (hxz (by omega))
  have h3:10 ^ m.length≤10 ^ (x.length - 1):=Nat.pow_le_pow_right (by omega) (by omega)
  rw [decide_eq_true q,decide_eq_true (show valN m 0<valN x 0 by omega)]
  rfl
theorem uint_val (M:Nat) (hM:M≤18446744073709551615):∀ (s:List UInt8) (a:Nat),AllD s→Lib.parseUintM M a s=.ok (valN s a)∨(Lib.parseUintM M a s=.range∧M<valN s a)
 | [],a,_=>Or.inl rfl
 | c::r,a,h=>by
  have hc:=h c (by simp)
  have hr:AllD r:=fun x hx=>h x (by simp [hx])
  have hg:=val_ge r (10*a+(c.toNat - 48)) hr
  have ih:=uint_val M hM r (10*a+(c.toNat - 48)) hr
  have e:a*10+(c.toNat - 48)=10*a+(c.toNat - 48):=by omega
  simp only [Lib.parseUintM,if_pos hc,valN,e]
  split
  ·exact Or.inr ⟨rfl,by omega⟩
  ·split
   ·exact Or.inr ⟨rfl,by omega⟩
   ·exact ih
theorem int_val (B:Nat) (hB:1≤B∧B≤64) (s:List UInt8) (h:AllD s) (hne:s≠[]):Lib.parseIntB B s=if 2 ^ (B - 1)≤valN s 0 then .range else .ok (valN s 0:Int):=by
 cases s with
 | nil=>exact absurd rfl hne
 | cons c r=>
  have hc:=h c (by simp)
  have hp:2 ^ B≤2 ^ 64:=Nat.pow_le_pow_right (by omega) hB.2
  have hp1:2 ^ (B - 1)≤2 ^ B:=Nat.pow_le_pow_right (by omega) (by omega)
  have hp2:1≤2 ^ (B - 1):=Nat.pow_pos (by omega)
  have e64:(2:Nat) ^ 64=18446744073709551616:=by decide
  rw [Lib.parseIntB_plain B c r (by omega) (by omega)]
  unfold Lib.parseUintB
  rw [if_neg (by simp)]
  rcases uint_val (2 ^ B - 1) (by omega) (c::r) 0 h with e|⟨e,hl⟩
  ·rw [e]
   rfl
  ·rw [e,if_pos (by omega)]
   rfl
end Go.Proofs.YthcfianhdkolhaaGreatDoor.X
