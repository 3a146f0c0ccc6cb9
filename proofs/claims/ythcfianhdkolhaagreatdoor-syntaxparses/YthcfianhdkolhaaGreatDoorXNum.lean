/- XLeaf XSign XRow XPLeaf XNum -/
import Derived.Test.YthcfianhdkolhaaGreatDoorProg
import Derived.WalkKit
import Derived.WalkSpells
import Derived.Outline
import Derived.LoopTactic
import Derived.Laws.Cover1
import Derived.BigQuiet
import Derived.Lib.ParseIntBCases
namespace Go.Proofs.YthcfianhdkolhaaGreatDoor.X
open Go.RowKit
set_option maxRecDepth 100000
set_option maxHeartbeats 2000000
set_option linter.unusedVariables false
set_option linter.unusedSimpArgs false
theorem hide {p:Prop} (h:p):Hid p:=h
def letB (c:Nat):Bool:=(decide (97≤c) && decide (c≤122)) || (decide (65≤c) && decide (c≤90))
def digB (c:Nat):Bool:=decide (48≤c) && decide (c≤57)
def insB (c:Nat):Bool:=letB c || digB c || decide (c=95)
theorem letter_any (c:Nat) (w:World) (hc:c<256):Calls Tryz.prog 24 #[.int .u8 c] w fun e w'=>e=.returned (.bool (letB c))∧w'=w:=by
 have key:∀ b1 b2 b3 b4,decide (97≤c)=b1→decide (c≤122)=b2→decide (65≤c)=b3→decide (c≤90)=b4→letB c=((b1 && b2) || (b3 && b4)):=fun _ _ _ _ h1 h2 h3 h4=>by unfold letB;rw [h1,h2,h3,h4]
 by_cases a1:97≤c
 ·by_cases a2:c≤122
  ·rw [key true true _ _ (decide_eq_true a1) (decide_eq_true a2) rfl rfl]
   have d1:(97:Int)≤c:=by omega
   have d2:(c:Int)≤122:=by omega
   go_enter Tryz.func24,Tryz.ntmps24
   go_wp2_with fail
   go_ret
   exact ⟨rfl,rfl⟩
  ·rw [key true false true false (decide_eq_true a1) (decide_eq_false a2) (decide_eq_true (by omega)) (decide_eq_false (by omega))]
   have d1:(97:Int)≤c:=by omega
   have d2:¬ (c:Int)≤122:=by omega
   have d3:(65:Int)≤c:=by omega
   have d4:¬ (c:Int)≤90:=by omega
   go_enter Tryz.func24,Tryz.ntmps24
   go_wp2_with fail
   go_ret
   exact ⟨rfl,rfl⟩
 ·by_cases a3:65≤c
  ·have d1:¬ (97:Int)≤c:=by omega
   have d3:(65:Int)≤c:=by omega
   by_cases a4:c≤90
   ·rw [key false true true true (decide_eq_false a1) (decide_eq_true (by omega)) (decide_eq_true a3) (decide_eq_true a4)]
    have d4:(c:Int)≤90:=by omega
    go_enter Tryz.func24,Tryz.ntmps24
    go_wp2_with fail
    go_ret
    exact ⟨rfl,rfl⟩
   ·rw [key false true true false (decide_eq_false a1) (decide_eq_true (by omega)) (decide_eq_true a3) (decide_eq_false a4)]
    have d4:¬ (c:Int)≤90:=by omega
    go_enter Tryz.func24,Tryz.ntmps24
    go_wp2_with fail
    go_ret
    exact ⟨rfl,rfl⟩
  ·rw [key false true false true (decide_eq_false a1) (decide_eq_true (by omega)) (decide_eq_false a3) (decide_eq_true (by omega))]
   have d1:¬ (97:Int)≤c:=by omega
   have d3:¬ (65:Int)≤c:=by omega
   go_enter Tryz.func24,Tryz.ntmps24
   go_wp2_with fail
   go_ret
   exact ⟨rfl,rfl⟩
theorem digit_any (c:Nat) (w:World) (hc:c<256):Calls Tryz.prog 25 #[.int .u8 c] w fun e w'=>e=.returned (.bool (digB c))∧w'=w:=by
 have key:∀ b1 b2,decide (48≤c)=b1→decide (c≤57)=b2→digB c=(b1 && b2):=fun _ _ h1 h2=>by unfold digB;rw [h1,h2]
 by_cases a1:48≤c
 ·have d1:(48:Int)≤c:=by omega
  by_cases a2:c≤57
  ·rw [key true true (decide_eq_true a1) (decide_eq_true a2)]
   have d2:(c:Int)≤57:=by omega
   go_enter Tryz.func25,Tryz.ntmps25
   go_wp2_with fail
   go_ret
   exact ⟨rfl,rfl⟩
  ·rw [key true false (decide_eq_true a1) (decide_eq_false a2)]
   have d2:¬ (c:Int)≤57:=by omega
   go_enter Tryz.func25,Tryz.ntmps25
   go_wp2_with fail
   go_ret
   exact ⟨rfl,rfl⟩
 ·rw [key false true (decide_eq_false a1) (decide_eq_true (by omega))]
  have d1:¬ (48:Int)≤c:=by omega
  go_enter Tryz.func25,Tryz.ntmps25
  go_wp2_with fail
  go_ret
  exact ⟨rfl,rfl⟩
theorem inside_any (c:Nat) (w:World) (hc:c<256):Calls Tryz.prog 22 #[.int .u8 c] w fun e w'=>e=.returned (.bool (insB c))∧w'=w:=by
 have hlet:=fun w'=>letter_any c w' hc
 have hdig:=fun w'=>digit_any c w' hc
 obtain ⟨r,hr⟩:∃ r,r=insB c:=⟨_,rfl⟩
 rw [← hr]
 unfold insB at hr
 have HR:=hide hr
 clear hr
 cases hL:letB c with
 | true=>
  rw [hL] at hlet
  obtain rfl:r=true:=by rw [HR.out,hL];rfl
  go_enter Tryz.func22,Tryz.ntmps22
  go_wp2_with fail
  go_at_call 24
  refine (hlet _).mono ?_
  rintro e w1 ⟨rfl,rfl⟩
  go_wp2_with fail
  go_ret
  exact ⟨rfl,rfl⟩
 | false=>
  rw [hL] at hlet
  cases hD:digB c with
  | true=>
   rw [hD] at hdig
   obtain rfl:r=true:=by rw [HR.out,hL,hD];rfl
   go_enter Tryz.func22,Tryz.ntmps22
   go_wp2_with fail
   go_at_call 24
   refine (hlet _).mono ?_
   rintro e w1 ⟨rfl,rfl⟩
   go_wp2_with fail
   go_at_call 25
   refine (hdig _).mono ?_
   rintro e w1 ⟨rfl,rfl⟩
   go_wp2_with fail
   go_ret
   exact ⟨rfl,rfl⟩
  | false=>
   rw [hD] at hdig
   obtain rfl:r=((c:Int) == 95):=by
    rw [HR.out,hL,hD]
    by_cases h:c=95
    ·subst h;rfl
    ·rw [decide_eq_false h];simp;omega
   clear HR
   go_enter Tryz.func22,Tryz.ntmps22
   go_wp2_with fail
   go_at_call 24
   refine (hlet _).mono ?_
   rintro e w1 ⟨rfl,rfl⟩
   go_wp2_with fail
   go_at_call 25
   refine (hdig _).mono ?_
   rintro e w1 ⟨rfl,rfl⟩
   go_wp2_with fail
   go_ret
   exact ⟨rfl,rfl⟩
def aboveB (a b:ByteArray):Bool:=decide (b.size<a.size) || (decide (a.size=b.size) && !(Op.bytesLess a.toList b.toList || a.toList == b.toList))
theorem above_any (a b:ByteArray) (w:World) (ha:a.size≤4000) (hb:b.size≤4000):Calls Tryz.prog 50 #[.string a,.string b] w fun e w'=>e=.returned (.bool (aboveB a b))∧w'=w:=by
 obtain ⟨r,hr⟩:∃ r,r=aboveB a b:=⟨_,rfl⟩
 rw [← hr]
 unfold aboveB at hr
 by_cases c1:b.size<a.size
 ·have h1:(b.size:Int)<a.size:=by omega
  obtain rfl:r=true:=by rw [hr,decide_eq_true c1];rfl
  clear hr
  go_enter Tryz.func50,Tryz.ntmps50
  go_wp2_with fail
  go_ret
  exact ⟨rfl,rfl⟩
 ·have h1:¬ (b.size:Int)<a.size:=by omega
  by_cases c2:a.size=b.size
  ·have h2:((a.size:Int) == (b.size:Int))=true:=by simp;omega
   obtain ⟨q,hq⟩:∃ q,q=(Op.bytesLess a.toList b.toList || a.toList == b.toList):=⟨_,rfl⟩
   obtain rfl:r=!q:=by rw [hr,decide_eq_false c1,decide_eq_true c2,hq];rfl
   have hgt:∀ t,binOp .gtr t (.string a) (.string b)=pure (.bool !q):=fun t=>by rw [binOp_string_gtr,hq]
   have HQ:=hide hq
   have HC:=hide c2
   clear hr c1 c2 hq
   go_enter Tryz.func50,Tryz.ntmps50
   go_wp2_with fail
   go_ret
   exact ⟨rfl,rfl⟩
  ·have h2:((a.size:Int) == (b.size:Int))=false:=by simp;omega
   have h3:(a.size == b.size)=false:=by simp;omega
   obtain rfl:r=false:=by rw [hr,decide_eq_false c1,decide_eq_false c2];rfl
   clear hr
   go_enter Tryz.func50,Tryz.ntmps50
   go_wp2_with fail
   go_ret
   exact ⟨rfl,rfl⟩
def Strs (w:World) (na:Option Addr) (nn:Nat) (names:Nat→ByteArray):Prop:=0<nn→∃ b o,na=some ⟨b,o,none⟩∧b<w.heap.size∧∀ j,j<nn→w.cell? ⟨b,o+j,none⟩=some (.string (names j))
def signs:List (List UInt8):=[[46,46,46],[61,61],[123],[125],[40],[41],[59],[44],[46],[61],[60],[43],[45],[42],[47],[37],[38],[124],[94],[33]]
def sigN (j:Nat):ByteArray:=⟨(signs.getD j []).toArray⟩
theorem signs_any (w:World):Calls Tryz.prog 49 #[] w fun e w'=>∃ na,e=.returned (.slice na 20 20)∧Strs w' na 20 sigN∧Below w.heap.size w w':=by
 go_enter Tryz.func49,Tryz.ntmps49
 go_wp2_with fail
 go_ret
 refine ⟨_,rfl,fun _=>⟨w.heap.size,0,rfl,by simp,fun j hj=>?_⟩,(Below.refl _ _).alloc (Nat.le_refl _) _⟩
 rw [World.cell?_alloc_at _ _ _ _ rfl,Nat.zero_add]
 have:j=0∨j=1∨j=2∨j=3∨j=4∨j=5∨j=6∨j=7∨j=8∨j=9∨j=10∨j=11∨j=12∨j=13∨j=14∨j=15∨j=16∨j=17∨j=18∨j=19:=by omega
 rcases this with rfl|rfl|rfl|rfl|rfl|rfl|rfl|rfl|rfl|rfl|rfl|rfl|rfl|rfl|rfl|rfl|rfl|rfl|rfl|rfl<;>rfl
theorem below_drewN {B:Nat} {a w:World} (h:Below B a w) (n:Nat):Below B a (w.drewN n):=⟨h.os,h.tape,h.output,h.size,h.block⟩
def pre (s:ByteArray) (j:Nat):Bool:=decide ((sigN j).size≤s.size) && ((s.extract 0 (sigN j).size).toList == (sigN j).toList)
def signFrom (s:ByteArray):Nat→Nat→ByteArray
 | _,0=>⟨#[]⟩
 | j,n+1=>if pre s j then sigN j else signFrom s (j+1) n
def signOf (s:ByteArray):ByteArray:=signFrom s 0 20
theorem signFrom_skip (s:ByteArray):∀ n j,(∀ i,j≤i→i<j+n→pre s i=false)→signFrom s j n=⟨#[]⟩
 | 0,_,_=>rfl
 | n+1,j,h=>by
  unfold signFrom
  rw [h j (Nat.le_refl _) (by omega)]
  exact signFrom_skip s n (j+1) (fun i h1 h2=>h i (by omega) (by omega))
theorem signFrom_at (s:ByteArray):∀ n j k,j≤k→k<j+n→(∀ i,j≤i→i<k→pre s i=false)→pre s k=true→signFrom s j n=sigN k
 | 0,_,_,h1,h2,_,_=>by omega
 | n+1,j,k,h1,h2,h,hp=>by
  unfold signFrom
  by_cases e:j=k
  ·subst e;rw [hp];rfl
  ·rw [h j (Nat.le_refl _) (by omega)]
   exact signFrom_at s n (j+1) k (by omega) (by omega) (fun i h3 h4=>h i (by omega) h4) hp
theorem sign_any (s:ByteArray) (w:World) (hs:s.size≤4000):Calls Tryz.prog 23 #[.string s] w fun e w'=>e=.returned (.string (signOf s))∧Below w.heap.size w w':=by
 obtain ⟨r,hr⟩:∃ r,r=signOf s:=⟨_,rfl⟩
 rw [← hr]
 have HR:=hide hr
 clear hr
 go_enter Tryz.func23,Tryz.ntmps23
 go_wp2_with fail
 go_at_call 49
 refine (signs_any _).mono ?_
 rintro e w1 ⟨na,rfl,hst,hb1⟩
 obtain ⟨b,o,rfl,hb,hc⟩:=hst (by omega)
 have HB1:=hide hb1
 have HC:=hide hc
 clear hst hb1 hc
 go_wp2_with fail
 go_loopw [4] (fun i wr=>∃ k:Nat,k≤20∧i=.int .i64 k∧Hid (Below w1.heap.size w1 wr)∧Hid (∀ j,j<k→pre s j=false)) (fun i _=>20 - (intOf i).toNat)
 case atStart=>exact ⟨0,Nat.zero_le _,rfl,Below.refl _ _,fun j hj=>by omega⟩
 case round=>
  obtain ⟨k,hk,rfl,HB,HK⟩:=hrel
  by_cases hlt:k<20
  ·have hlt':(k:Int)<20:=by omega
   have hidx:(0:Int)≤k∧(k:Int)<20:=by omega
   have e1:wr.cell? ⟨b,o+k,none⟩=some (.string (sigN k)):=(HB.out.cell (p:=⟨b,o+k,none⟩) hb).trans (HC.out k hlt)
   have hss:(sigN k).size≤3:=by
    have:k=0∨k=1∨k=2∨k=3∨k=4∨k=5∨k=6∨k=7∨k=8∨k=9∨k=10∨k=11∨k=12∨k=13∨k=14∨k=15∨k=16∨k=17∨k=18∨k=19:=by omega
    rcases this with rfl|rfl|rfl|rfl|rfl|rfl|rfl|rfl|rfl|rfl|rfl|rfl|rfl|rfl|rfl|rfl|rfl|rfl|rfl|rfl<;>decide
   have HP:Hid (pre s k=(decide ((sigN k).size≤s.size) && ((s.extract 0 (sigN k).size).toList == (sigN k).toList))):=rfl
   have HAt:Hid (pre s k=true→r=sigN k):=fun h=>by rw [HR.out];exact signFrom_at s 20 0 k (by omega) (by omega) (fun i _ h2=>HK.out i h2) h
   have HNx:Hid (pre s k=false→∀ j,j<k+1→pre s j=false):=fun h j hj=>by
    by_cases e:j=k
    ·subst e;exact h
    ·exact HK.out j (by omega)
   generalize sigN k=g at *
   by_cases hz:g.size≤s.size
   ·have hz':(g.size:Int)≤s.size:=by omega
    have hz0:(0:Int)≤g.size∧(g.size:Int)≤s.size:=by omega
    have hzd:decide ((g.size:Int)≤s.size)=true:=by simpa using hz
    have hzd2:decide (g.size≤s.size)=true:=by simpa using hz
    cases hq:((s.extract 0 g.size).toList == g.toList) with
    | true=>
     have hp:pre s k=true:=by rw [HP.out,hzd2,hq];rfl
     obtain rfl:=HAt.out hp
     have HH:=hide hp
     clear hp
     go_wp2_with fail
     go_quiet (fail)
     generalize nq=q
     go_wp2_with fail
     go_ret
     exact ⟨rfl,HB1.out.trans ((below_drewN HB.out q).mono HB1.out.size)⟩
    | false=>
     have hp:pre s k=false:=by rw [HP.out,hzd2,hq];rfl
     have HN:=hide (HNx.out hp)
     clear hp
     go_wp2_with fail
     go_quiet (fail)
     generalize nq=q
     go_wp2_with fail
     go_roundw
     case rel=>exact ⟨k+1,by omega,by go_num,below_drewN HB.out q,HN⟩
     case measure=>simp [intOf];omega
   ·have hz':¬ (g.size:Int)≤s.size:=by omega
    have hzd:decide ((g.size:Int)≤s.size)=false:=by simpa using hz
    have hzd2:decide (g.size≤s.size)=false:=by simpa using hz
    have hp:pre s k=false:=by rw [HP.out,hzd2];rfl
    have HN:=hide (HNx.out hp)
    clear hp
    go_wp2_with fail
    go_quiet (fail)
    generalize nq=q
    go_wp2_with fail
    go_roundw
    case rel=>exact ⟨k+1,by omega,by go_num,below_drewN HB.out q,HN⟩
    case measure=>simp [intOf];omega
  ·obtain rfl:k=20:=by omega
   have hlt':¬ ((20:Nat):Int)<20:=by omega
   have hr:r=⟨#[]⟩:=by rw [HR.out];exact signFrom_skip s 20 0 (fun i _ h2=>HK.out i (by omega))
   subst hr
   go_wp2_with fail
   go_ret
   exact ⟨rfl,HB1.out.trans (HB.out.mono HB1.out.size)⟩
def byteAt (s:ByteArray) (i:Nat):Nat:=match s.data[i]? with|some c=>c.toNat|none=>0
theorem byteAt_get (s:ByteArray) (i:Nat) (h:i<s.size):byteAt s i=(s[i]'h).toNat:=by
 unfold byteAt
 rw [Array.getElem?_eq_getElem (show i<s.data.size from h)]
 rfl
def mostW:ByteArray:=⟨#[50,49,52,55,52,56,51,54,52,55]⟩
def mostL:ByteArray:=⟨#[57,50,50,51,51,55,50,48,51,54,56,53,52,55,55,53,56,48,55]⟩
def rowC (x most:ByteArray):Int:=
 if !((List.range x.size).all fun i=>digB (byteAt x i)) then 2 else if 1<x.size∧byteAt x 0=48 then 2 else if aboveB x most then 6 else 0
def isL (s:ByteArray):Bool:=decide (byteAt s (s.size - 1)=76)
def rowText (s:ByteArray):ByteArray:=if isL s then s.extract 0 (s.size - 1) else s
def rowCode (s:ByteArray):Int:=rowC (rowText s) (if isL s then mostL else mostW)
def rowTok (s:ByteArray):Array Value:=if rowCode s=0 then #[.int .i64 (if isL s then 3 else 2),.string (rowText s),.int .i64 0] else #[.int .i64 0,.string ⟨#[]⟩,.int .i64 0]
theorem row_any (s:ByteArray) (w:World) (h1:1≤s.size) (hs:s.size≤4000):Calls Tryz.prog 26 #[.string s] w fun e w'=>e=.returned (.tuple #[.agg (rowTok s),.int .i64 (rowCode s)])∧Below w.heap.size w w':=by
 obtain ⟨n,hn⟩:∃ n,s.size=n+1:=⟨s.size - 1,by omega⟩
 have hlt:n<s.size:=by omega
 have hw:IntKind.i64.wrap ((n:Int)+1 - 1)=n:=by rw [IntKind.wrap_i64];omega
 have hw2:IntKind.i64.wrap ((s.size:Int) - 1)=n:=by rw [IntKind.wrap_i64];omega
 have hidx:(0:Int)≤n∧(n:Int)<s.size:=by omega
 have hcap:(0:Int)≤n∧(n:Int)≤s.size:=by omega
 have hb:=byteAt_get s n hlt
 obtain ⟨r,hr⟩:∃ r,r=rowCode s:=⟨_,rfl⟩
 obtain ⟨tk,htk⟩:∃ tk,tk=rowTok s:=⟨_,rfl⟩
 rw [← hr,← htk]
 cases hL:isL s with
 | false=>
  have hL2:((s[n].toNat:Int) == 76)=false:=by
   unfold isL at hL
   rw [show s.size - 1=n by omega,hb] at hL
   simp at hL ⊢
   omega
  have HR:Hid (r=rowC s mostW):=by show _=_;rw [hr];unfold rowCode rowText;rw [hL];rfl
  have HTk:Hid (tk=if r=0 then #[.int .i64 2,.string s,.int .i64 0] else #[.int .i64 0,.string ⟨#[]⟩,.int .i64 0]):=by show _=_;rw [htk,hr];unfold rowTok rowText;rw [hL];rfl
  have hxs:s.size≤4000:=hs
  have HN:=hide (And.intro hn (And.intro hL (And.intro hr htk)))
  clear hn hL hr htk hb
  go_enter Tryz.func26,Tryz.ntmps26
  go_wp2_with fail
  generalize hxe:s=x at *
  have hB0:Below w.heap.size w ((w.alloc (.cells #[.int .i64 0,.string ⟨#[]⟩,.int .i64 0] 44)).alloc (.cells #[.int .i64 2,.string x,.int .i64 0] 44)):=((Below.refl _ _).alloc (Nat.le_refl _) _).alloc (by simp) _
  have y:∀ o,((w.alloc (.cells #[.int .i64 0,.string ⟨#[]⟩,.int .i64 0] 44)).alloc (.cells #[.int .i64 2,.string x,.int .i64 0] 44)).cell? ⟨w.heap.size+1,o,none⟩=(#[Value.int .i64 2,.string x,.int .i64 0])[o]?:=fun o=>World.cell?_alloc_at _ _ _ _ (by simp)
  have hq:((w.alloc (.cells #[.int .i64 0,.string ⟨#[]⟩,.int .i64 0] 44)).alloc (.cells #[.int .i64 2,.string x,.int .i64 0] 44)).heap[w.heap.size]?=some (.cells #[.int .i64 0,.string ⟨#[]⟩,.int .i64 0] 44 (0,0)):=(Below.heap_alloc _ _ _ (by simp)).trans (heap_alloc_new w _)
  have z:∀ o,((w.alloc (.cells #[.int .i64 0,.string ⟨#[]⟩,.int .i64 0] 44)).alloc (.cells #[.int .i64 2,.string x,.int .i64 0] 44)).cell? ⟨w.heap.size,o,none⟩=(#[Value.int .i64 0,.string ⟨#[]⟩,.int .i64 0])[o]?:=fun o=>by simp [World.cell?,hq]
  have fz:∀ o,((w.alloc (.cells #[.int .i64 0,.string ⟨#[]⟩,.int .i64 0] 44)).alloc (.cells #[.int .i64 2,.string x,.int .i64 0] 44)).frozen? ⟨w.heap.size,o,none⟩=false:=fun o=>by simp only [World.frozen?,hq];rfl
  have hz0:((w.alloc (.cells #[.int .i64 0,.string ⟨#[]⟩,.int .i64 0] 44)).alloc (.cells #[.int .i64 2,.string x,.int .i64 0] 44)).heap.size=w.heap.size+1+1:=by simp
  generalize (w.alloc (.cells #[.int .i64 0,.string ⟨#[]⟩,.int .i64 0] 44)).alloc (.cells #[.int .i64 2,.string x,.int .i64 0] 44)=W at *
  clear hq
  go_loopw [6] (fun i wr=>∃ k:Nat,k≤x.size∧i=.int .i64 k∧wr=W∧Hid (∀ j,j<k→digB (byteAt x j)=true)) (fun i _=>x.size - (intOf i).toNat)
  case atStart=>exact ⟨0,Nat.zero_le _,rfl,rfl,fun j hj=>by omega⟩
  case round=>
   obtain ⟨k,hk,rfl,rfl,HK⟩:=hrel
   by_cases hkx:k<x.size
   ·have hkx':(k:Int)<x.size:=by omega
    have hkid:(0:Int)≤k∧(k:Int)<x.size:=by omega
    have hb8:x[k].toNat<256:=UInt8.toNat_lt _
    have hdig:=fun w'=>digit_any x[k].toNat w' hb8
    have hbk:=byteAt_get x k hkx
    cases hD:digB x[k].toNat with
    | true=>
     rw [hD] at hdig
     have HK1:Hid (∀ j,j<k+1→digB (byteAt x j)=true):=fun j hj=>by
      by_cases e:j=k
      ·subst e;rw [hbk];exact hD
      ·exact HK.out j (by omega)
     have HH:=hide (And.intro hbk hD)
     clear hbk hD
     go_wp2_with fail
     go_at_call 25
     refine (hdig _).mono ?_
     rintro e w1 ⟨rfl,rfl⟩
     go_wp2_with fail
     go_roundw
     case rel=>exact ⟨k+1,by omega,by go_num,trivial,HK1⟩
     case measure=>simp [intOf];omega
    | false=>
     rw [hD] at hdig
     obtain ⟨rfl,rfl⟩:r=2∧tk=#[.int .i64 0,.string ⟨#[]⟩,.int .i64 0]:=by
      have e:r=2:=by rw [HR.out];unfold rowC;rw [if_pos (by simp;exact ⟨k,hkx,by rw [hbk];exact hD⟩)]
      exact ⟨e,by rw [HTk.out,if_neg (by rw [e];decide)]⟩
     have HH:=hide (And.intro hbk hD)
     clear hbk hD
     go_wp2_with fail
     go_at_call 25
     refine (hdig _).mono ?_
     rintro e w1 ⟨rfl,rfl⟩
     go_wp2_with fail
     refine bodyPost_ret (v:=.tuple #[.agg #[.int .i64 0,.string ⟨#[]⟩,.int .i64 0],.int .i64 2]) (by simp [results,Tryz.results26,go_sem,hz0,y,z]) rfl ⟨rfl,?_⟩
     repeat (first|exact hB0|(refine Below.setCell ?_ (by simp) _)|(refine Below.alloc ?_ (by simp) _))
   ·obtain hkk:k=x.size:=by omega
    have hkx':¬ (k:Int)<x.size:=by omega
    have HAll:Hid (((List.range x.size).all fun i=>digB (byteAt x i))=true):=by
     show _=_
     rw [List.all_eq_true]
     exact fun i hi=>HK.out i (by rw [hkk];exact List.mem_range.1 hi)
    have HR2:Hid (r=if 1<x.size∧byteAt x 0=48 then 2 else if aboveB x mostW then 6 else 0):=by
     show _=_
     rw [HR.out]
     unfold rowC
     rw [HAll.out]
     rfl
    have hab:=fun w'=>above_any x mostW w' hxs (by decide)
    obtain ⟨ab,hae⟩:∃ ab,ab=aboveB x mostW:=⟨_,rfl⟩
    rw [← hae] at hab
    have HA:=hide hae
    clear hae
    have HH:=hide hkk
    clear hkk
    by_cases s1:1<x.size
    ·have s1':(1:Int)<x.size:=by omega
     have s0:0<x.size:=by omega
     have s0':(0:Int)<x.size:=by omega
     have hb0:=byteAt_get x 0 s0
     by_cases c0:byteAt x 0=48
     ·have c1:((x[0].toNat:Int) == 48)=true:=by rw [← hb0];simp;omega
      obtain ⟨rfl,rfl⟩:r=2∧tk=#[.int .i64 0,.string ⟨#[]⟩,.int .i64 0]:=by
       have e:r=2:=by rw [HR2.out];rw [if_pos ⟨s1,c0⟩]
       exact ⟨e,by rw [HTk.out,if_neg (by rw [e];decide)]⟩
      have HH2:=hide (And.intro hb0 c0)
      clear hb0 c0
      go_wp2_with fail
      refine bodyPost_ret (v:=.tuple #[.agg #[.int .i64 0,.string ⟨#[]⟩,.int .i64 0],.int .i64 2]) (by simp [results,Tryz.results26,go_sem,hz0,y,z]) rfl ⟨rfl,?_⟩
      repeat (first|exact hB0|(refine Below.setCell ?_ (by simp) _)|(refine Below.alloc ?_ (by simp) _))
     ·have c1:((x[0].toNat:Int) == 48)=false:=by rw [← hb0];simp;omega
      have HR3:Hid (r=if ab then 6 else 0):=by show _=_;rw [HR2.out,if_neg (fun h=>c0 h.2),HA.out]
      have HH2:=hide (And.intro hb0 c0)
      clear hb0 c0
      cases ab with
      | true=>
       obtain ⟨rfl,rfl⟩:r=6∧tk=#[.int .i64 0,.string ⟨#[]⟩,.int .i64 0]:=by
        have e:r=6:=by rw [HR3.out];rfl
        exact ⟨e,by rw [HTk.out,if_neg (by rw [e];decide)]⟩
       go_wp2_with fail
       go_at_call 50
       refine (hab _).mono ?_
       rintro e w1 ⟨rfl,rfl⟩
       go_wp2_with fail
       refine bodyPost_ret (v:=.tuple #[.agg #[.int .i64 0,.string ⟨#[]⟩,.int .i64 0],.int .i64 6]) (by simp [results,Tryz.results26,go_sem,hz0,y,z]) rfl ⟨rfl,?_⟩
       repeat (first|exact hB0|(refine Below.setCell ?_ (by simp) _)|(refine Below.alloc ?_ (by simp) _))
      | false=>
       obtain ⟨rfl,rfl⟩:r=0∧tk=#[.int .i64 2,.string x,.int .i64 0]:=by
        have e:r=0:=by rw [HR3.out];rfl
        exact ⟨e,by rw [HTk.out,if_pos e]⟩
       go_wp2_with fail
       go_at_call 50
       refine (hab _).mono ?_
       rintro e w1 ⟨rfl,rfl⟩
       go_wp2_with fail
       refine bodyPost_ret (v:=.tuple #[.agg #[.int .i64 2,.string x,.int .i64 0],.int .i64 0]) (by simp [results,Tryz.results26,go_sem,hz0,y,z]) rfl ⟨rfl,?_⟩
       repeat (first|exact hB0|(refine Below.setCell ?_ (by simp) _)|(refine Below.alloc ?_ (by simp) _))
    ·have s1':¬ (1:Int)<x.size:=by omega
     have HR3:Hid (r=if ab then 6 else 0):=by show _=_;rw [HR2.out,if_neg (fun h=>s1 h.1),HA.out]
     cases ab with
     | true=>
      obtain ⟨rfl,rfl⟩:r=6∧tk=#[.int .i64 0,.string ⟨#[]⟩,.int .i64 0]:=by
       have e:r=6:=by rw [HR3.out];rfl
       exact ⟨e,by rw [HTk.out,if_neg (by rw [e];decide)]⟩
      go_wp2_with fail
      go_at_call 50
      refine (hab _).mono ?_
      rintro e w1 ⟨rfl,rfl⟩
      go_wp2_with fail
      refine bodyPost_ret (v:=.tuple #[.agg #[.int .i64 0,.string ⟨#[]⟩,.int .i64 0],.int .i64 6]) (by simp [results,Tryz.results26,go_sem,hz0,y,z]) rfl ⟨rfl,?_⟩
      repeat (first|exact hB0|(refine Below.setCell ?_ (by simp) _)|(refine Below.alloc ?_ (by simp) _))
     | false=>
      obtain ⟨rfl,rfl⟩:r=0∧tk=#[.int .i64 2,.string x,.int .i64 0]:=by
       have e:r=0:=by rw [HR3.out];rfl
       exact ⟨e,by rw [HTk.out,if_pos e]⟩
      go_wp2_with fail
      go_at_call 50
      refine (hab _).mono ?_
      rintro e w1 ⟨rfl,rfl⟩
      go_wp2_with fail
      refine bodyPost_ret (v:=.tuple #[.agg #[.int .i64 2,.string x,.int .i64 0],.int .i64 0]) (by simp [results,Tryz.results26,go_sem,hz0,y,z]) rfl ⟨rfl,?_⟩
      repeat (first|exact hB0|(refine Below.setCell ?_ (by simp) _)|(refine Below.alloc ?_ (by simp) _))
 | true=>
  have hL2:((s[n].toNat:Int) == 76)=true:=by
   unfold isL at hL
   rw [show s.size - 1=n by omega,hb] at hL
   simp at hL ⊢
   omega
  have HR:Hid (r=rowC (s.extract 0 n) mostL):=by show _=_;rw [hr];unfold rowCode rowText;rw [hL,show s.size - 1=n by omega];rfl
  have HTk:Hid (tk=if r=0 then #[.int .i64 3,.string (s.extract 0 n),.int .i64 0] else #[.int .i64 0,.string ⟨#[]⟩,.int .i64 0]):=by show _=_;rw [htk,hr];unfold rowTok rowText;rw [hL,show s.size - 1=n by omega];rfl
  have hxs:(s.extract 0 n).size≤4000:=by rw [ByteArray.size_extract];omega
  have HN:=hide (And.intro hn (And.intro hL (And.intro hr htk)))
  clear hn hL hr htk hb
  go_enter Tryz.func26,Tryz.ntmps26
  go_wp2_with fail
  generalize s.extract 0 n=x at *
  have hB0:Below w.heap.size w ((w.alloc (.cells #[.int .i64 0,.string ⟨#[]⟩,.int .i64 0] 44)).alloc (.cells #[.int .i64 3,.string x,.int .i64 0] 44)):=((Below.refl _ _).alloc (Nat.le_refl _) _).alloc (by simp) _
  have y:∀ o,((w.alloc (.cells #[.int .i64 0,.string ⟨#[]⟩,.int .i64 0] 44)).alloc (.cells #[.int .i64 3,.string x,.int .i64 0] 44)).cell? ⟨w.heap.size+1,o,none⟩=(#[Value.int .i64 3,.string x,.int .i64 0])[o]?:=fun o=>World.cell?_alloc_at _ _ _ _ (by simp)
  have hq:((w.alloc (.cells #[.int .i64 0,.string ⟨#[]⟩,.int .i64 0] 44)).alloc (.cells #[.int .i64 3,.string x,.int .i64 0] 44)).heap[w.heap.size]?=some (.cells #[.int .i64 0,.string ⟨#[]⟩,.int .i64 0] 44 (0,0)):=(Below.heap_alloc _ _ _ (by simp)).trans (heap_alloc_new w _)
  have z:∀ o,((w.alloc (.cells #[.int .i64 0,.string ⟨#[]⟩,.int .i64 0] 44)).alloc (.cells #[.int .i64 3,.string x,.int .i64 0] 44)).cell? ⟨w.heap.size,o,none⟩=(#[Value.int .i64 0,.string ⟨#[]⟩,.int .i64 0])[o]?:=fun o=>by simp [World.cell?,hq]
  have fz:∀ o,((w.alloc (.cells #[.int .i64 0,.string ⟨#[]⟩,.int .i64 0] 44)).alloc (.cells #[.int .i64 3,.string x,.int .i64 0] 44)).frozen? ⟨w.heap.size,o,none⟩=false:=fun o=>by simp only [World.frozen?,hq];rfl
  have hz0:((w.alloc (.cells #[.int .i64 0,.string ⟨#[]⟩,.int .i64 0] 44)).alloc (.cells #[.int .i64 3,.string x,.int .i64 0] 44)).heap.size=w.heap.size+1+1:=by simp
  generalize (w.alloc (.cells #[.int .i64 0,.string ⟨#[]⟩,.int .i64 0] 44)).alloc (.cells #[.int .i64 3,.string x,.int .i64 0] 44)=W at *
  clear hq
  go_loopw [6] (fun i wr=>∃ k:Nat,k≤x.size∧i=.int .i64 k∧wr=W∧Hid (∀ j,j<k→digB (byteAt x j)=true)) (fun i _=>x.size - (intOf i).toNat)
  case atStart=>exact ⟨0,Nat.zero_le _,rfl,rfl,fun j hj=>by omega⟩
  case round=>
   obtain ⟨k,hk,rfl,rfl,HK⟩:=hrel
   by_cases hkx:k<x.size
   ·have hkx':(k:Int)<x.size:=by omega
    have hkid:(0:Int)≤k∧(k:Int)<x.size:=by omega
    have hb8:x[k].toNat<256:=UInt8.toNat_lt _
    have hdig:=fun w'=>digit_any x[k].toNat w' hb8
    have hbk:=byteAt_get x k hkx
    cases hD:digB x[k].toNat with
    | true=>
     rw [hD] at hdig
     have HK1:Hid (∀ j,j<k+1→digB (byteAt x j)=true):=fun j hj=>by
      by_cases e:j=k
      ·subst e;rw [hbk];exact hD
      ·exact HK.out j (by omega)
     have HH:=hide (And.intro hbk hD)
     clear hbk hD
     go_wp2_with fail
     go_at_call 25
     refine (hdig _).mono ?_
     rintro e w1 ⟨rfl,rfl⟩
     go_wp2_with fail
     go_roundw
     case rel=>exact ⟨k+1,by omega,by go_num,trivial,HK1⟩
     case measure=>simp [intOf];omega
    | false=>
     rw [hD] at hdig
     obtain ⟨rfl,rfl⟩:r=2∧tk=#[.int .i64 0,.string ⟨#[]⟩,.int .i64 0]:=by
      have e:r=2:=by rw [HR.out];unfold rowC;rw [if_pos (by simp;exact ⟨k,hkx,by rw [hbk];exact hD⟩)]
      exact ⟨e,by rw [HTk.out,if_neg (by rw [e];decide)]⟩
     have HH:=hide (And.intro hbk hD)
     clear hbk hD
     go_wp2_with fail
     go_at_call 25
     refine (hdig _).mono ?_
     rintro e w1 ⟨rfl,rfl⟩
     go_wp2_with fail
     refine bodyPost_ret (v:=.tuple #[.agg #[.int .i64 0,.string ⟨#[]⟩,.int .i64 0],.int .i64 2]) (by simp [results,Tryz.results26,go_sem,hz0,y,z]) rfl ⟨rfl,?_⟩
     repeat (first|exact hB0|(refine Below.setCell ?_ (by simp) _)|(refine Below.alloc ?_ (by simp) _))
   ·obtain hkk:k=x.size:=by omega
    have hkx':¬ (k:Int)<x.size:=by omega
    have HAll:Hid (((List.range x.size).all fun i=>digB (byteAt x i))=true):=by
     show _=_
     rw [List.all_eq_true]
     exact fun i hi=>HK.out i (by rw [hkk];exact List.mem_range.1 hi)
    have HR2:Hid (r=if 1<x.size∧byteAt x 0=48 then 2 else if aboveB x mostL then 6 else 0):=by
     show _=_
     rw [HR.out]
     unfold rowC
     rw [HAll.out]
     rfl
    have hab:=fun w'=>above_any x mostL w' hxs (by decide)
    obtain ⟨ab,hae⟩:∃ ab,ab=aboveB x mostL:=⟨_,rfl⟩
    rw [← hae] at hab
    have HA:=hide hae
    clear hae
    have HH:=hide hkk
    clear hkk
    by_cases s1:1<x.size
    ·have s1':(1:Int)<x.size:=by omega
     have s0:0<x.size:=by omega
     have s0':(0:Int)<x.size:=by omega
     have hb0:=byteAt_get x 0 s0
     by_cases c0:byteAt x 0=48
     ·have c1:((x[0].toNat:Int) == 48)=true:=by rw [← hb0];simp;omega
      obtain ⟨rfl,rfl⟩:r=2∧tk=#[.int .i64 0,.string ⟨#[]⟩,.int .i64 0]:=by
       have e:r=2:=by rw [HR2.out];rw [if_pos ⟨s1,c0⟩]
       exact ⟨e,by rw [HTk.out,if_neg (by rw [e];decide)]⟩
      have HH2:=hide (And.intro hb0 c0)
      clear hb0 c0
      go_wp2_with fail
      refine bodyPost_ret (v:=.tuple #[.agg #[.int .i64 0,.string ⟨#[]⟩,.int .i64 0],.int .i64 2]) (by simp [results,Tryz.results26,go_sem,hz0,y,z]) rfl ⟨rfl,?_⟩
      repeat (first|exact hB0|(refine Below.setCell ?_ (by simp) _)|(refine Below.alloc ?_ (by simp) _))
     ·have c1:((x[0].toNat:Int) == 48)=false:=by rw [← hb0];simp;omega
      have HR3:Hid (r=if ab then 6 else 0):=by show _=_;rw [HR2.out,if_neg (fun h=>c0 h.2),HA.out]
      have HH2:=hide (And.intro hb0 c0)
      clear hb0 c0
      cases ab with
      | true=>
       obtain ⟨rfl,rfl⟩:r=6∧tk=#[.int .i64 0,.string ⟨#[]⟩,.int .i64 0]:=by
        have e:r=6:=by rw [HR3.out];rfl
        exact ⟨e,by rw [HTk.out,if_neg (by rw [e];decide)]⟩
       go_wp2_with fail
       go_at_call 50
       refine (hab _).mono ?_
       rintro e w1 ⟨rfl,rfl⟩
       go_wp2_with fail
       refine bodyPost_ret (v:=.tuple #[.agg #[.int .i64 0,.string ⟨#[]⟩,.int .i64 0],.int .i64 6]) (by simp [results,Tryz.results26,go_sem,hz0,y,z]) rfl ⟨rfl,?_⟩
       repeat (first|exact hB0|(refine Below.setCell ?_ (by simp) _)|(refine Below.alloc ?_ (by simp) _))
      | false=>
       obtain ⟨rfl,rfl⟩:r=0∧tk=#[.int .i64 3,.string x,.int .i64 0]:=by
        have e:r=0:=by rw [HR3.out];rfl
        exact ⟨e,by rw [HTk.out,if_pos e]⟩
       go_wp2_with fail
       go_at_call 50
       refine (hab _).mono ?_
       rintro e w1 ⟨rfl,rfl⟩
       go_wp2_with fail
       refine bodyPost_ret (v:=.tuple #[.agg #[.int .i64 3,.string x,.int .i64 0],.int .i64 0]) (by simp [results,Tryz.results26,go_sem,hz0,y,z]) rfl ⟨rfl,?_⟩
       repeat (first|exact hB0|(refine Below.setCell ?_ (by simp) _)|(refine Below.alloc ?_ (by simp) _))
    ·have s1':¬ (1:Int)<x.size:=by omega
     have HR3:Hid (r=if ab then 6 else 0):=by show _=_;rw [HR2.out,if_neg (fun h=>s1 h.1),HA.out]
     cases ab with
     | true=>
      obtain ⟨rfl,rfl⟩:r=6∧tk=#[.int .i64 0,.string ⟨#[]⟩,.int .i64 0]:=by
       have e:r=6:=by rw [HR3.out];rfl
       exact ⟨e,by rw [HTk.out,if_neg (by rw [e];decide)]⟩
      go_wp2_with fail
      go_at_call 50
      refine (hab _).mono ?_
      rintro e w1 ⟨rfl,rfl⟩
      go_wp2_with fail
      refine bodyPost_ret (v:=.tuple #[.agg #[.int .i64 0,.string ⟨#[]⟩,.int .i64 0],.int .i64 6]) (by simp [results,Tryz.results26,go_sem,hz0,y,z]) rfl ⟨rfl,?_⟩
      repeat (first|exact hB0|(refine Below.setCell ?_ (by simp) _)|(refine Below.alloc ?_ (by simp) _))
     | false=>
      obtain ⟨rfl,rfl⟩:r=0∧tk=#[.int .i64 3,.string x,.int .i64 0]:=by
       have e:r=0:=by rw [HR3.out];rfl
       exact ⟨e,by rw [HTk.out,if_pos e]⟩
      go_wp2_with fail
      go_at_call 50
      refine (hab _).mono ?_
      rintro e w1 ⟨rfl,rfl⟩
      go_wp2_with fail
      refine bodyPost_ret (v:=.tuple #[.agg #[.int .i64 3,.string x,.int .i64 0],.int .i64 0]) (by simp [results,Tryz.results26,go_sem,hz0,y,z]) rfl ⟨rfl,?_⟩
      repeat (first|exact hB0|(refine Below.setCell ?_ (by simp) _)|(refine Below.alloc ?_ (by simp) _))
end Go.Proofs.YthcfianhdkolhaaGreatDoor.X
namespace Go.Proofs.YthcfianhdkolhaaGreatDoor.X
open Go.RowKit
set_option linter.unusedVariables false
set_option linter.unusedSimpArgs false
theorem pletter_any (c:Nat) (w:World) (hc:c<256):Calls Tryz.prog 42 #[.int .u8 c] w fun e w'=>e=.returned (.bool (letB c))∧w'=w:=by
 have key:∀ b1 b2 b3 b4,decide (97≤c)=b1→decide (c≤122)=b2→decide (65≤c)=b3→decide (c≤90)=b4→letB c=((b1 && b2) || (b3 && b4)):=fun _ _ _ _ h1 h2 h3 h4=>by unfold letB;rw [h1,h2,h3,h4]
 by_cases a1:97≤c
 ·by_cases a2:c≤122
  ·rw [key true true _ _ (decide_eq_true a1) (decide_eq_true a2) rfl rfl]
   have d1:(97:Int)≤c:=by omega
   have d2:(c:Int)≤122:=by omega
   go_enter Tryz.func42,Tryz.ntmps42
   go_wp2_with fail
   go_ret
   exact ⟨rfl,rfl⟩
  ·rw [key true false true false (decide_eq_true a1) (decide_eq_false a2) (decide_eq_true (by omega)) (decide_eq_false (by omega))]
   have d1:(97:Int)≤c:=by omega
   have d2:¬ (c:Int)≤122:=by omega
   have d3:(65:Int)≤c:=by omega
   have d4:¬ (c:Int)≤90:=by omega
   go_enter Tryz.func42,Tryz.ntmps42
   go_wp2_with fail
   go_ret
   exact ⟨rfl,rfl⟩
 ·by_cases a3:65≤c
  ·have d1:¬ (97:Int)≤c:=by omega
   have d3:(65:Int)≤c:=by omega
   by_cases a4:c≤90
   ·rw [key false true true true (decide_eq_false a1) (decide_eq_true (by omega)) (decide_eq_true a3) (decide_eq_true a4)]
    have d4:(c:Int)≤90:=by omega
    go_enter Tryz.func42,Tryz.ntmps42
    go_wp2_with fail
    go_ret
    exact ⟨rfl,rfl⟩
   ·rw [key false true true false (decide_eq_false a1) (decide_eq_true (by omega)) (decide_eq_true a3) (decide_eq_false a4)]
    have d4:¬ (c:Int)≤90:=by omega
    go_enter Tryz.func42,Tryz.ntmps42
    go_wp2_with fail
    go_ret
    exact ⟨rfl,rfl⟩
  ·rw [key false true false true (decide_eq_false a1) (decide_eq_true (by omega)) (decide_eq_false a3) (decide_eq_true (by omega))]
   have d1:¬ (97:Int)≤c:=by omega
   have d3:¬ (65:Int)≤c:=by omega
   go_enter Tryz.func42,Tryz.ntmps42
   go_wp2_with fail
   go_ret
   exact ⟨rfl,rfl⟩
theorem pdigit_any (c:Nat) (w:World) (hc:c<256):Calls Tryz.prog 45 #[.int .u8 c] w fun e w'=>e=.returned (.bool (digB c))∧w'=w:=by
 have key:∀ b1 b2,decide (48≤c)=b1→decide (c≤57)=b2→digB c=(b1 && b2):=fun _ _ h1 h2=>by unfold digB;rw [h1,h2]
 by_cases a1:48≤c
 ·have d1:(48:Int)≤c:=by omega
  by_cases a2:c≤57
  ·rw [key true true (decide_eq_true a1) (decide_eq_true a2)]
   have d2:(c:Int)≤57:=by omega
   go_enter Tryz.func45,Tryz.ntmps45
   go_wp2_with fail
   go_ret
   exact ⟨rfl,rfl⟩
  ·rw [key true false (decide_eq_true a1) (decide_eq_false a2)]
   have d2:¬ (c:Int)≤57:=by omega
   go_enter Tryz.func45,Tryz.ntmps45
   go_wp2_with fail
   go_ret
   exact ⟨rfl,rfl⟩
 ·rw [key false true (decide_eq_false a1) (decide_eq_true (by omega))]
  have d1:¬ (48:Int)≤c:=by omega
  go_enter Tryz.func45,Tryz.ntmps45
  go_wp2_with fail
  go_ret
  exact ⟨rfl,rfl⟩
theorem pin_any (c:Nat) (w:World) (hc:c<256):Calls Tryz.prog 44 #[.int .u8 c] w fun e w'=>e=.returned (.bool (insB c))∧w'=w:=by
 have hlet:=fun w'=>pletter_any c w' hc
 have hdig:=fun w'=>pdigit_any c w' hc
 obtain ⟨r,hr⟩:∃ r,r=insB c:=⟨_,rfl⟩
 rw [← hr]
 unfold insB at hr
 have HR:=hide hr
 clear hr
 cases hL:letB c with
 | true=>
  rw [hL] at hlet
  obtain rfl:r=true:=by rw [HR.out,hL];rfl
  go_enter Tryz.func44,Tryz.ntmps44
  go_wp2_with fail
  go_at_call 42
  refine (hlet _).mono ?_
  rintro e w1 ⟨rfl,rfl⟩
  go_wp2_with fail
  go_ret
  exact ⟨rfl,rfl⟩
 | false=>
  rw [hL] at hlet
  cases hD:digB c with
  | true=>
   rw [hD] at hdig
   obtain rfl:r=true:=by rw [HR.out,hL,hD];rfl
   go_enter Tryz.func44,Tryz.ntmps44
   go_wp2_with fail
   go_at_call 42
   refine (hlet _).mono ?_
   rintro e w1 ⟨rfl,rfl⟩
   go_wp2_with fail
   go_at_call 45
   refine (hdig _).mono ?_
   rintro e w1 ⟨rfl,rfl⟩
   go_wp2_with fail
   go_ret
   exact ⟨rfl,rfl⟩
  | false=>
   rw [hD] at hdig
   obtain rfl:r=((c:Int) == 95):=by
    rw [HR.out,hL,hD]
    by_cases h:c=95
    ·subst h;rfl
    ·rw [decide_eq_false h];simp;omega
   clear HR
   go_enter Tryz.func44,Tryz.ntmps44
   go_wp2_with fail
   go_at_call 42
   refine (hlet _).mono ?_
   rintro e w1 ⟨rfl,rfl⟩
   go_wp2_with fail
   go_at_call 45
   refine (hdig _).mono ?_
   rintro e w1 ⟨rfl,rfl⟩
   go_wp2_with fail
   go_ret
   exact ⟨rfl,rfl⟩
end Go.Proofs.YthcfianhdkolhaaGreatDoor.X
namespace Go.Proofs.YthcfianhdkolhaaGreatDoor.X
set_option linter.unusedVariables false
set_option linter.unusedSimpArgs false
def AllD (s:List UInt8):Prop:=∀ c,c∈s→48≤c.toNat∧c.toNat≤57
def valN:List UInt8→Nat→Nat
 | [],a=>a
 | c::r,a=>valN r (10*a+(c.toNat - 48))
theorem val_bounds:∀ (s:List UInt8) (a:Nat),AllD s→a*10 ^ s.length≤valN s a∧valN s a+1≤(a+1)*10 ^ s.length
 | [],a,_=>by simp [valN]
 | c::r,a,h=>by
  have hc:=h c (by simp)
  obtain ⟨h1,h2⟩:=val_bounds r (10*a+(c.toNat - 48)) (fun x hx=>h x (by simp [hx]))
  simp only [List.length_cons,valN,Nat.pow_succ]
  have e1:a*(10 ^ r.length*10)=10*a*10 ^ r.length:=by rw [Nat.mul_comm (10 ^ r.length) 10,← Nat.mul_assoc,Nat.mul_comm a 10]
  have e2:(a+1)*(10 ^ r.length*10)=(10*a+10)*10 ^ r.length:=by rw [Nat.mul_comm (10 ^ r.length) 10,← Nat.mul_assoc,Nat.mul_comm (a+1) 10,Nat.mul_add]
  have l1:10*a*10 ^ r.length≤(10*a+(c.toNat - 48))*10 ^ r.length:=Nat.mul_le_mul_right _ (by omega)
  have l2:(10*a+(c.toNat - 48)+1)*10 ^ r.length≤(10*a+10)*10 ^ r.length:=Nat.mul_le_mul_right _ (by omega)
  rw [e1,e2]
  exact ⟨Nat.le_trans l1 h1,Nat.le_trans h2 l2⟩
theorem val_ge (s:List UInt8) (a:Nat) (h:AllD s):a≤valN s a:=by
 have h1:=(val_bounds s a h).1
 have h2:a*1≤a*10 ^ s.length:=Nat.mul_le_mul_left _ (Nat.pow_pos (by omega))
 omega
theorem val_lt {x y:List UInt8} {a b:Nat} (hx:AllD x) (hy:AllD y) (hl:x.length=y.length) (h:a<b):valN x a<valN y b:=by
 have h1:=(val_bounds x a hx).2
 have h2:=(val_bounds y b hy).1
 have h3:(a+1)*10 ^ x.length≤b*10 ^ y.length:=by rw [hl];exact Nat.mul_le_mul_right _ h
 omega
theorem less_val:∀ (x y:List UInt8) (a:Nat),AllD x→AllD y→x.length=y.length→(Op.bytesLess x y=true→valN x a<valN y a)∧(Op.bytesLess x y=false→valN y a≤valN x a)
 | [],[],a,_,_,_=>by simp [Op.bytesLess,valN]
 | [],d::y,_,_,_,h=>by simp at h
 | c::x,[],_,_,_,h=>by simp at h
 | c::x,d::y,a,hx,hy,h=>by
  have hl:x.length=y.length:=by simpa using h
  have hx':AllD x:=fun z hz=>hx z (by simp [hz])
  have hy':AllD y:=fun z hz=>hy z (by simp [hz])
  have hc:=hx c (by simp)
  have hd:=hy d (by simp)
  simp only [Op.bytesLess,valN]
  by_cases e:c<d
  ·have e':c.toNat<d.toNat:=UInt8.lt_iff_toNat_lt.1 e
   simp only [e,decide_true,Bool.true_or,true_implies,Bool.true_eq_false,false_implies,and_true]
   exact val_lt hx' hy' hl (by omega)
  ·by_cases e2:c=d
   ·subst e2
    have ih:=less_val x y (10*a+(c.toNat - 48)) hx' hy' hl
    simp only [e,decide_false,Bool.false_or,beq_self_eq_true,Bool.true_and]
    exact ih
   ·have e':d.toNat<c.toNat:=by
     have h1:¬ c.toNat<d.toNat:=fun q=>e (UInt8.lt_iff_toNat_lt.2 q)
     have h2:c.toNat≠d.toNat:=fun q=>e2 (UInt8.toNat_inj.1 q)
     omega
    have e3:(c == d)=false:=by simpa using e2
    simp only [e,decide_false,Bool.false_or,e3,Bool.false_and,Bool.false_eq_true,false_implies,true_implies,true_and]
    exact Nat.le_of_lt (val_lt hy' hx' hl.symm (by omega))
theorem less_ne:∀ (x y:List UInt8) (a:Nat),AllD x→AllD y→x.length=y.length→valN x a=valN y a→x=y
 | [],[],a,_,_,_,_=>rfl
 | [],d::y,_,_,_,h,_=>by simp at h
 | c::x,[],_,_,_,h,_=>by simp at h
 | c::x,d::y,a,hx,hy,h,e=>by
  have hl:x.length=y.length:=by simpa using h
  have hx':AllD x:=fun z hz=>hx z (by simp [hz])
  have hy':AllD y:=fun z hz=>hy z (by simp [hz])
  have hc:=hx c (by simp)
  have hd:=hy d (by simp)
  simp only [valN] at e
  rcases Nat.lt_trichotomy c.toNat d.toNat with q|q|q
  ·have:=val_lt (a:=10*a+(c.toNat - 48)) (b:=10*a+(d.toNat - 48)) hx' hy' hl (by omega)
   omega
  ·obtain rfl:=UInt8.toNat_inj.1 q
   rw [less_ne x y _ hx' hy' hl e]
  ·have:=val_lt (a:=10*a+(d.toNat - 48)) (b:=10*a+(c.toNat - 48)) hy' hx' hl.symm (by omega)
   omega
theorem val_one {s:List UInt8} (h:AllD s) (hne:s≠[]) (hz:∀ c,s.head?=some c→c.toNat≠48):10 ^ (s.length - 1)≤valN s 0:=by
 cases s with
 | nil=>exact absurd rfl hne
 | cons c r=>
  have hc:=h c (by simp)
  have h0:=hz c rfl
  have:=(val_bounds r (10*0+(c.toNat - 48)) (fun x hx=>h x (by simp [hx]))).1
  have h1:1*10 ^ r.length≤(10*0+(c.toNat - 48))*10 ^ r.length:=Nat.mul_le_mul_right _ (by omega)
  simp only [List.length_cons,Nat.add_sub_cancel,valN]
  omega
theorem above_val {x m:List UInt8} (hx:AllD x) (hxz:1<x.length→∀ c,x.head?=some c→c.toNat≠48) (hm:AllD m) (hmz:∀ c,m.head?=some c→c.toNat≠48) (hmn:m≠[]) (hxn:x≠[]):
  (decide (m.length<x.length) || (decide (x.length=m.length) && !(Op.bytesLess x m || x == m)))=decide (valN m 0<valN x 0):=by
 have hml:0<m.length:=List.length_pos_iff.2 hmn
 rcases Nat.lt_trichotomy x.length m.length with q|q|q
 ·have h1:=(val_bounds x 0 hx).2
  have h2:=val_one hm hmn hmz
  have h3:10 ^ x.length≤10 ^ (m.length - 1):=Nat.pow_le_pow_right (by omega) (by omega)
  rw [decide_eq_false (show ¬ m.length<x.length by omega),decide_eq_false (show ¬ x.length=m.length by omega),decide_eq_false (show ¬ valN m 0<valN x 0 by omega)]
  rfl
 ·rw [decide_eq_false (show ¬ m.length<x.length by omega),decide_eq_true q]
  have hl:=less_val x m 0 hx hm q
  cases hb:Op.bytesLess x m with
  | true=>rw [decide_eq_false (show ¬ valN m 0<valN x 0 by have:=hl.1 hb;omega)];rfl
  | false=>
   have h1:=hl.2 hb
   by_cases e:x=m
   ·subst e;simp
   ·have h2:valN m 0≠valN x 0:=fun e2=>e (less_ne x m 0 hx hm q e2.symm)
    rw [decide_eq_true (show valN m 0<valN x 0 by omega)]
    simp [e]
 ·have h1:=(val_bounds m 0 hm).2
  have h2:=val_one hx hxn (hxz (by omega))
  have h3:10 ^ m.length≤10 ^ (x.length - 1):=Nat.pow_le_pow_right (by omega) (by omega)
  rw [decide_eq_true q,decide_eq_true (show valN m 0<valN x 0 by omega)]
  rfl
theorem uint_val (M:Nat) (hM:M≤18446744073709551615):∀ (s:List UInt8) (a:Nat),AllD s→Lib.parseUintM M a s=.ok (valN s a)∨(Lib.parseUintM M a s=.range∧M<valN s a)
 | [],a,_=>Or.inl rfl
 | c::r,a,h=>by
  have hc:=h c (by simp)
  have hr:AllD r:=fun x hx=>h x (by simp [hx])
  have hg:=val_ge r (10*a+(c.toNat - 48)) hr
  have ih:=uint_val M hM r (10*a+(c.toNat - 48)) hr
  have e:a*10+(c.toNat - 48)=10*a+(c.toNat - 48):=by omega
  simp only [Lib.parseUintM,if_pos hc,valN,e]
  split
  ·exact Or.inr ⟨rfl,by omega⟩
  ·split
   ·exact Or.inr ⟨rfl,by omega⟩
   ·exact ih
theorem int_val (B:Nat) (hB:1≤B∧B≤64) (s:List UInt8) (h:AllD s) (hne:s≠[]):Lib.parseIntB B s=if 2 ^ (B - 1)≤valN s 0 then .range else .ok (valN s 0:Int):=by
 cases s with
 | nil=>exact absurd rfl hne
 | cons c r=>
  have hc:=h c (by simp)
  have hp:2 ^ B≤2 ^ 64:=Nat.pow_le_pow_right (by omega) hB.2
  have hp1:2 ^ (B - 1)≤2 ^ B:=Nat.pow_le_pow_right (by omega) (by omega)
  have hp2:1≤2 ^ (B - 1):=Nat.pow_pos (by omega)
  have e64:(2:Nat) ^ 64=18446744073709551616:=by decide
  rw [Lib.parseIntB_plain B c r (by omega) (by omega)]
  unfold Lib.parseUintB
  rw [if_neg (by simp)]
  rcases uint_val (2 ^ B - 1) (by omega) (c::r) 0 h with e|⟨e,hl⟩
  ·rw [e]
   rfl
  ·rw [e,if_pos (by omega)]
   rfl
end Go.Proofs.YthcfianhdkolhaaGreatDoor.X
