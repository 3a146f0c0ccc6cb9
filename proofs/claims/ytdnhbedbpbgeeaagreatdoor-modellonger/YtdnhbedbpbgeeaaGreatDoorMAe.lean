/- 4 -/
import Derived.Test.YtdnhbedbpbgeeaaGreatDoorMAd
import Derived.Deep.AppendLies
import Derived.Carry
import Derived.Laws.Rows
import Derived.Deep.RegionHeldLaw
import Derived.Lib.ParseIntBCases
import Derived.WalkKit
import Derived.Lib.IndexAny
import Derived.Lib.Strings
import Derived.WalkMore
import Derived.ScopeJumps
set_option maxRecDepth 100000
set_option maxHeartbeats 4000000
set_option linter.all false
namespace Go.Proofs.YtdnhbedbpbgeeaaGreatDoor.X
open Go.RowKit Go.Proofs.Tryz
variable {w' w W : World} {t x s : ByteArray} {xs : List Value} {cur : Array Value} {v : Value} {n i b z : Nat} {e : TypeId}
def rowEndN (t:ByteArray):Nat→Nat→Nat
 | 0,tO=>tO
 | n+1,tO=>if insB (aD t tO) then rowEndN t n (tO+1) else tO
def cK (t:ByteArray)(i:Nat):Nat:=rowEndN t (t.size - i) i
theorem rowEndN_le (t:ByteArray):∀n tO,tO≤rowEndN t n tO∧rowEndN t n tO≤tO+n
 | 0,tO=>⟨Nat.le_refl _,Nat.le_refl _⟩
 | n+1,tO=>by
  unfold rowEndN;have:=rowEndN_le t n (tO+1);split<;>omega
structure Look where
 code:Int
 kind:Int
 text:ByteArray
 next:Nat
def look (t:ByteArray)(i:Nat):Look:=
 if letB (aD t i) then ⟨if 16<cK t i - i then 1 else 0,1,t.extract i (cK t i),cK t i⟩
 else if digB (aD t i) then ⟨cF (t.extract i (cK t i)),if isL (t.extract i (cK t i)) then 3 else 2,aK (t.extract i (cK t i)),cK t i⟩
 else ⟨if (signOf (t.extract i t.size)).size=0 then 2 else 0,4,signOf (t.extract i t.size),i+(signOf (t.extract i t.size)).size⟩
def blank (note:Bool)(c:Nat):Bool:=note || decide (c=32) || decide (c=10) || decide (c=35)
def note2 (note:Bool)(c:Nat):Bool:=(note || decide (c=35)) && !decide (c=10)
def scanN (t:ByteArray):Nat→Nat→Bool→List Tok→List Tok × Int × Nat
 | 0,_,_,l=>(l,0,0)
 | n+1,i,note,l=>
  if i<t.size then
   if blank note (aD t i) then scanN t n (i+1) (note2 note (aD t i)) l
   else if (look t i).code=0 then scanN t n (look t i).next note (l++[⟨(look t i).kind,(look t i).text,i⟩]) else ([],(look t i).code,i)
  else (l,0,0)
theorem scanN_succ (t:ByteArray) (n i:Nat) (note:Bool) (l:List Tok):scanN t (n+1) i note l=if i<t.size then if blank note (aD t i) then scanN t n (i+1) (note2 note (aD t i)) l else if (look t i).code=0 then scanN t n (look t i).next note (l++[⟨(look t i).kind,(look t i).text,i⟩]) else ([],(look t i).code,i) else (l,0,0):=rfl
def scan (t:ByteArray):List Tok × Int × Nat:=if 4000<t.size then ([],1,0) else scanN t t.size 0 false []
theorem let_ins {c : Nat} (h:letB c=true):insB c=true:=by unfold insB;rw[h];rfl
theorem dig_ins {c : Nat} (h:digB c=true):insB c=true:=by unfold insB;rw[h];simp
theorem rowEnd_gt (hi:i<t.size) (h:insB (aD t i)=true):i<cK t i:=by
 unfold cK;obtain⟨n,hn⟩:∃n,t.size - i=n+1:=⟨t.size - i - 1,by omega⟩
 rw[hn];unfold rowEndN;rw[if_pos h];have:=(rowEndN_le t n (i+1)).1;omega
theorem look_next (hi:i<t.size) (h:(look t i).code=0):i<(look t i).next:=by
 unfold look at *;split
 ·exact rowEnd_gt hi (let_ins (by assumption))
 rename_i h1
 rw[if_neg h1] at h;split
 ·exact rowEnd_gt hi (dig_ins (by assumption))
 rename_i h2
 rw[if_neg h2] at h;simp only at h ⊢;split at h
 ·cases h
 omega
theorem signFrom_le (s:ByteArray):∀n j,(eC s j n).size≤s.size
 | 0,_=>Nat.zero_le _
 | n+1,j=>by
  unfold eC;split
  ·rename_i h
   unfold pre at h;simp only[Bool.and_eq_true,decide_eq_true_eq] at h;exact h.1
  exact signFrom_le s n (j+1)
theorem rowEnd_le (hi:i≤t.size):cK t i≤t.size:=by
 have:=(rowEndN_le t (t.size - i) i).2;unfold cK;omega
theorem look_le (hi:i<t.size):(look t i).next≤t.size:=by
 unfold look;split
 ·exact rowEnd_le (by omega)
 split
 ·exact rowEnd_le (by omega)
 have:=signFrom_le (t.extract i t.size) 20 0;rw[ByteArray.size_extract] at this;show i+(signOf (t.extract i t.size)).size≤t.size;unfold signOf;omega
theorem own_below {ob : Nat} (h:w.ownsRow ob e z v n xs) (hb:Below w.heap.size w w'):w'.ownsRow ob e z v n xs:=by
 refine⟨h.1,?_⟩;rcases h.2 with h2|⟨g,cap,cur,hv,hg,hh,r⟩
 ·exact Or.inl h2
 exact Or.inr ⟨g,cap,cur,hv,hg,(hb.block g (Array.getElem?_eq_some_iff.1 hh).1).trans hh,r⟩
theorem own_base {ob ob' : Nat} (h:w.ownsRow ob e z v n xs) (hb:ob'≤ob):w.ownsRow ob' e z v n xs:=by
 refine⟨h.1,?_⟩;rcases h.2 with h2|⟨g,cap,cur,hv,hg,r⟩
 ·exact Or.inl h2
 exact Or.inr ⟨g,cap,cur,hv,Nat.le_trans hb hg,r⟩
theorem info_parts {P : Program} {z : Value} {m : Nat} (h:(P.info? e).map (λ i=>(i.zero,i.size,i.bytes))=some (some z,n,m)):∃i,P.info? e=some i∧i.zero=some z∧i.size=n∧i.bytes=m:=by
 cases hi:P.info? e with
 | none=>rw[hi] at h;cases h
 | some i=>
  rw[hi] at h;simp at h;exact⟨i,rfl,h.1,h.2.1,h.2.2⟩
theorem info207:(prog.info? 207).map (λ i=>(i.zero,i.size,i.bytes))=some (some (.agg #[.int .i64 0,.string ⟨#[]⟩,.int .i64 0]),3,32):=by kernel_rfl
theorem scanN_fuel (t:ByteArray):∀n m i note l,t.size - i≤n→t.size - i≤m→scanN t n i note l=scanN t m i note l
 | 0,0,_,_,_,_,_=>rfl
 | 0,m+1,i,note,l,h,_=>by
  rw[scanN_succ,if_neg (by omega)];rfl
 | n+1,0,i,note,l,_,h=>by
  rw[scanN_succ,if_neg (by omega)];rfl
 | n+1,m+1,i,note,l,h1,h2=>by
  rw[scanN_succ,scanN_succ];by_cases hi:i<t.size
  ·rw[if_pos hi,if_pos hi];rw[scanN_fuel t n m (i+1) _ l (by omega) (by omega)];by_cases hc:(look t i).code=0
   ·have:=look_next hi hc;rw[scanN_fuel t n m (look t i).next note _ (by omega) (by omega)]
   rw[if_neg hc,if_neg hc]
  rw[if_neg hi,if_neg hi]
def bV (t:ByteArray)(i:Nat)(note:Bool)(l:List Tok):List Tok × Int × Nat:=scanN t (t.size - i) i note l
theorem scanAt_end (t:ByteArray) (i:Nat) (note:Bool) (l:List Tok) (h:t.size≤i):bV t i note l=(l,0,0):=by
 unfold bV;rw[show t.size - i=0 by omega];rfl
theorem eP (t:ByteArray) (i:Nat) (note:Bool) (l:List Tok) (h:i<t.size):bV t i note l=if blank note (aD t i) then bV t (i+1) (note2 note (aD t i)) l else if (look t i).code=0 then bV t (look t i).next note (l++[⟨(look t i).kind,(look t i).text,i⟩]) else ([],(look t i).code,i):=by
 unfold bV;obtain⟨n,hn⟩:∃n,t.size - i=n+1:=⟨t.size - i - 1,by omega⟩
 rw[hn,scanN_succ,if_pos h];rw[scanN_fuel t n (t.size - (i+1)) (i+1) _ l (by omega) (by omega)];by_cases hc:(look t i).code=0
 ·have:=look_next h hc;rw[scanN_fuel t n (t.size - (look t i).next) (look t i).next note _ (by omega) (by omega)]
 rw[if_neg hc,if_neg hc]
theorem scan_at (t:ByteArray) (h:t.size≤4000):scan t=bV t 0 false []:=by
 unfold scan bV;rw[if_neg (by omega)];rfl
theorem pass_blank (t:ByteArray) (i:Nat) (h:i<t.size) (hb:aD t i=32∨aD t i=10) (l:List Tok):bV t i false l=bV t (i+1) false l:=by
 rw[eP t i false l h];rcases hb with e|e<;>(rw[e];rfl)
theorem note_run (t:ByteArray)(e:Nat)(he:e≤t.size):∀d k,k+d=e→(∀j,k≤j→j<e→aD t j≠10)→∀l,bV t k true l=bV t e true l
 | 0,k,h,_,l=>by rw[show k=e by omega]
 | d+1,k,h,hk,l=>by
  rw[eP t k true l (by omega)];have h10:=hk k (Nat.le_refl _) (by omega);rw[show blank true (aD t k)=true from rfl,show note2 true (aD t k)=true by unfold note2;simp [h10],if_pos rfl];exact note_run t e he d (k+1) (by omega) (λ j h1 h2=>hk j (by omega) h2) l
theorem pass_note (t:ByteArray) (i e:Nat) (h:i<t.size) (hb:aD t i=35) (hie:i<e) (he:e≤t.size) (hk:∀j,i≤j→j<e→aD t j≠10) (hl:e=t.size∨aD t e=10) (l:List Tok):bV t i false l=bV t e false l:=by
 rw[eP t i false l h,hb,show blank false 35=true from rfl,if_pos rfl,show note2 false 35=true from rfl];rw[note_run t e he (e - (i+1)) (i+1) (by omega) (λ j h1 h2=>hk j (by omega) h2) l];rcases hl with hl|hl
 ·rw[scanAt_end _ _ _ _ (by omega),scanAt_end _ _ _ _ (by omega)]
 by_cases hlt:e<t.size
 ·rw[eP t e true l hlt,eP t e false l hlt,hl];rfl
 rw[scanAt_end _ _ _ _ (by omega),scanAt_end _ _ _ _ (by omega)]
theorem take_tok (t:ByteArray) (i:Nat) (h:i<t.size) (hb:blank false (aD t i)=false) (l:List Tok):bV t i false l=if (look t i).code=0 then bV t (look t i).next false (l++[⟨(look t i).kind,(look t i).text,i⟩]) else ([],(look t i).code,i):=by
 rw[eP t i false l h,hb];rfl
theorem rowEnd_eq {e : Nat} (hi:i≤e) (he:e≤t.size) (hk:∀j,i≤j→j<e→insB (aD t j)=true) (hl:e=t.size∨insB (aD t e)=false):cK t i=e:=by
 have key:∀n k,k≤e→i≤k→t.size=k+n→rowEndN t n k=e:=by
  intro n;induction n with
  | zero=>intro k h1 h2 h3;show k=e;omega
  | succ n ih=>
   intro k h1 h2 h3;unfold rowEndN;by_cases q:k<e
   ·rw[if_pos (hk k h2 q)];exact ih (k+1) (by omega) (by omega) (by omega)
   obtain rfl:k=e:=by omega
   rcases hl with hl|hl
   ·omega
   rw[hl];rfl
 unfold cK;exact key _ i hi (Nat.le_refl _) (by omega)
theorem pletter_any (c:Nat) (w:World) (hc:c<256):Calls prog 96 #[.int .u8 c] w λ e w'=>e=.returned (.bool (letB c))∧w'=w:=by
 have key:∀b1 b2 b3 b4,decide (97≤c)=b1→decide (c≤122)=b2→decide (65≤c)=b3→decide (c≤90)=b4→letB c=((b1 && b2) || (b3 && b4)):=λ_ _ _ _ h1 h2 h3 h4=>by unfold letB;rw[h1,h2,h3,h4]
 by_cases a1:97≤c
 ·by_cases a2:c≤122
  ·rw[key true true _ _ (decide_eq_true a1) (decide_eq_true a2) rfl rfl];have d1:(97:Int)≤c:=by omega
   have d2:(c:Int)≤122:=by omega
   go_enter func96,ntmps96;go_wp2;go_ret
   exact⟨rfl,rfl⟩
  rw[key true false true false (decide_eq_true a1) (decide_eq_false a2) (decide_eq_true (by omega)) (decide_eq_false (by omega))];have d1:(97:Int)≤c:=by omega
  have d2:¬ (c:Int)≤122:=by omega
  have d3:(65:Int)≤c:=by omega
  have d4:¬ (c:Int)≤90:=by omega
  go_enter func96,ntmps96;go_wp2;go_ret
  exact⟨rfl,rfl⟩
 by_cases a3:65≤c
 ·have d1:¬ (97:Int)≤c:=by omega
  have d3:(65:Int)≤c:=by omega
  by_cases a4:c≤90
  ·rw[key false true true true (decide_eq_false a1) (decide_eq_true (by omega)) (decide_eq_true a3) (decide_eq_true a4)];have d4:(c:Int)≤90:=by omega
   go_enter func96,ntmps96;go_wp2;go_ret
   exact⟨rfl,rfl⟩
  rw[key false true true false (decide_eq_false a1) (decide_eq_true (by omega)) (decide_eq_true a3) (decide_eq_false a4)];have d4:¬ (c:Int)≤90:=by omega
  go_enter func96,ntmps96;go_wp2;go_ret
  exact⟨rfl,rfl⟩
 rw[key false true false true (decide_eq_false a1) (decide_eq_true (by omega)) (decide_eq_false a3) (decide_eq_true (by omega))];have d1:¬ (97:Int)≤c:=by omega
 have d3:¬ (65:Int)≤c:=by omega
 go_enter func96,ntmps96;go_wp2;go_ret
 exact⟨rfl,rfl⟩
theorem pdigit_any (c:Nat) (w:World) (hc:c<256):Calls prog 99 #[.int .u8 c] w λ e w'=>e=.returned (.bool (digB c))∧w'=w:=by
 have key:∀b1 b2,decide (48≤c)=b1→decide (c≤57)=b2→digB c=(b1 && b2):=λ_ _ h1 h2=>by unfold digB;rw[h1,h2]
 by_cases a1:48≤c
 ·have d1:(48:Int)≤c:=by omega
  by_cases a2:c≤57
  ·rw[key true true (decide_eq_true a1) (decide_eq_true a2)];have d2:(c:Int)≤57:=by omega
   go_enter func99,ntmps99;go_wp2;go_ret
   exact⟨rfl,rfl⟩
  rw[key true false (decide_eq_true a1) (decide_eq_false a2)];have d2:¬ (c:Int)≤57:=by omega
  go_enter func99,ntmps99;go_wp2;go_ret
  exact⟨rfl,rfl⟩
 rw[key false true (decide_eq_false a1) (decide_eq_true (by omega))];have d1:¬ (48:Int)≤c:=by omega
 go_enter func99,ntmps99;go_wp2;go_ret
 exact⟨rfl,rfl⟩
theorem pin_any (c:Nat) (w:World) (hc:c<256):Calls prog 98 #[.int .u8 c] w λ e w'=>e=.returned (.bool (insB c))∧w'=w:=by
 have hlet:=λ w'=>pletter_any c w' hc;have hdig:=λ w'=>pdigit_any c w' hc;obtain⟨r,hr⟩:∃r,r=insB c:=⟨_,rfl⟩
 rw[← hr];unfold insB at hr;have HR:=ah hr;clear hr;cases hL:letB c with
 | true=>
  rw[hL] at hlet;obtain rfl:r=true:=by rw[HR.out,hL];rfl
  go_enter func98,ntmps98;go_wp2_with fail;go_at_call 96;refine (hlet _).mono ?_;rintro e w1 ⟨rfl,rfl⟩;go_wp2;go_ret
  exact⟨rfl,rfl⟩
 | false=>
  rw[hL] at hlet;cases hD:digB c with
  | true=>
   rw[hD] at hdig;obtain rfl:r=true:=by rw[HR.out,hL,hD];rfl
   go_enter func98,ntmps98;go_wp2_with fail;go_at_call 96;refine (hlet _).mono ?_;rintro e w1 ⟨rfl,rfl⟩;go_wp2_with fail;go_at_call 99;refine (hdig _).mono ?_;rintro e w1 ⟨rfl,rfl⟩;go_wp2;go_ret
   exact⟨rfl,rfl⟩
  | false=>
   rw[hD] at hdig;obtain rfl:r=((c:Int) == 95):=by
    rw[HR.out,hL,hD];by_cases h:c=95
    ·subst h;rfl
    rw[decide_eq_false h];simp;omega
   clear HR;go_enter func98,ntmps98;go_wp2_with fail;go_at_call 96;refine (hlet _).mono ?_;rintro e w1 ⟨rfl,rfl⟩;go_wp2_with fail;go_at_call 99;refine (hdig _).mono ?_;rintro e w1 ⟨rfl,rfl⟩;go_wp2;go_ret
   exact⟨rfl,rfl⟩
theorem cells_at {t : TypeId} (h:W.heap[b]?=some (.cells cur t (0,0))):∀o,W.cell? ⟨b,o,none⟩=cur[o]?:=λ o=>by simp [World.cell?,h]
theorem bG {t : TypeId} (h:W.heap[b]?=some (.cells cur t (0,0))):∀o,W.frozen? ⟨b,o,none⟩=false:=λ o=>by simp only[World.frozen?,h];rfl
structure Sc (w0 w:World)(b:Nat)(t:ByteArray)(c p:Int)(i:Nat)(L:List Tok):Prop where
 len:t.size≤4000
 le:i≤t.size
 many:L.length≤i
 base:w0.heap.size≤b
 blk:∃v,w.heap[b]?=some (.cells #[.int .i64 c,.int .i64 p,.string t,.int .i64 i,v] 120 (0,0))∧w.ownsRow w0.heap.size 207 3 v L.length (toks L)
 below:Below w0.heap.size w0 w
variable {w0 : World} {c p : Int} {L : List Tok}
theorem Sc.lt (h:Sc w0 w b t c p i L):b<w.heap.size:=by
 obtain⟨v,h1,_⟩:=h.blk;exact (Array.getElem?_eq_some_iff.1 h1).1
theorem Sc.kept (h:Sc w0 w b t c p i L) (hb:Below w.heap.size w w'):Sc w0 w' b t c p i L:=by
 obtain⟨v,h1,h2⟩:=h.blk;exact⟨h.len,h.le,h.many,h.base,⟨v,(hb.block b h.lt).trans h1,own_below h2 hb⟩,h.below.trans (hb.mono h.below.size)⟩
theorem own_set {ob : Nat} {o : Nat} {x : Value} (h:w.ownsRow ob 207 3 v n xs) (hb:w.heap[b]?=some (.cells cur 120 (0,0))):(w.setCell ⟨b,o,none⟩ x).ownsRow ob 207 3 v n xs:=by
 refine⟨h.1,?_⟩;rcases h.2 with h2|⟨g,cap,cu,hv,hg,hh,r⟩
 ·exact Or.inl h2
 refine Or.inr ⟨g,cap,cu,hv,hg,(Below.heap_setCell _ _ _ g (λ e=>?_)).trans hh,r⟩;have e':g=b:=e;rw[e',hb] at hh;simp at hh
theorem Sc.at (h:Sc w0 w b t c p i L) (j:Nat) (hj:j≤t.size) (hL:L.length≤j):Sc w0 (w.setCell ⟨b,3,none⟩ (.int .i64 j)) b t c p j L:=by
 obtain⟨v,h1,h2⟩:=h.blk;exact⟨h.len,hj,hL,h.base,⟨v,(heap_setCell_same w b 3 _ 120 _ h1).trans rfl,own_set h2 h1⟩,h.below.setCell h.base _⟩
theorem Sc.fail (h:Sc w0 w b t c p i L) (c':Int):Sc w0 ((w.setCell ⟨b,0,none⟩ (.int .i64 c')).setCell ⟨b,1,none⟩ (.int .i64 i)) b t c' i i L:=by
 obtain⟨v,h1,h2⟩:=h.blk;have k1:(w.setCell ⟨b,0,none⟩ (.int .i64 c')).heap[b]?=some (.cells #[.int .i64 c',.int .i64 p,.string t,.int .i64 i,v] 120 (0,0)):=(heap_setCell_same w b 0 _ 120 _ h1).trans rfl;exact⟨h.len,h.le,h.many,h.base,⟨v,(heap_setCell_same (w.setCell ⟨b,0,none⟩ (.int .i64 c')) b 1 _ 120 _ k1).trans rfl,own_set (own_set h2 h1) k1⟩,(h.below.setCell h.base _).setCell h.base _⟩
theorem aP {B : Nat} {a : World} (h:Below B a w) (n:Nat):Below B a (w.drewN n):=⟨h.os,h.tape,h.output,h.size,h.block⟩
theorem fail_any (h:Sc w0 w b t c p i L) (c':Int):Calls prog 120 #[.pointer (some ⟨b,0,none⟩),.int .i64 c'] w λ e w'=>(∃v,e=.returned v)∧Sc w0 w' b t c' i i L:=by
 have HR:=ah (h.fail c');obtain⟨v,h1,h2⟩:=h.blk;have hf:=bG h1;have hc:=cells_at h1;clear h2 h h1;go_enter func120,ntmps120;go_wp2;go_end0
 exact⟨⟨_,rfl⟩,HR⟩
theorem note_call (k:Nat) (w:World) (hk:k<256):Calls prog 95 #[.int .u8 k] w λ e w'=>e=.returned (.bool (!decide (k=10)))∧w'=w:=by
 by_cases h:k=10
 ·rw[decide_eq_true h];have d:((k:Int) != 10)=false:=by simp;omega
  clear h;go_enter func95,ntmps95;go_wp2;go_ret
  exact⟨rfl,rfl⟩
 rw[decide_eq_false h];have d:((k:Int) != 10)=true:=by simp;omega
 go_enter func95,ntmps95;go_wp2;go_ret
 exact⟨rfl,rfl⟩
theorem row_ins_any (h:Sc w0 w b t c p i L) (g:Nat→Bool) (hg:g=insB):Calls prog 94 #[.pointer (some ⟨b,0,none⟩),.func (.func 98) #[] #[]] w λ e w'=>∃j,i≤j∧j≤t.size∧(∀k,i≤k→k<j→g (aD t k)=true)∧(j=t.size∨g (aD t j)=false)∧e=.returned (.string (t.extract i j))∧Below w.heap.size w w':=by
 have hin:∀(k:Nat) (w':World),k<256→Calls prog 98 #[.int .u8 k] w' λ e w''=>e=.returned (.bool (g k))∧w''=w':=λ k w' hk=>by rw[hg];exact pin_any k w' hk
 have HG:=ah hg;clear hg;have hlen:=h.len;have hle:=h.le;obtain⟨v,h1,h2⟩:=h.blk;have hc:=cells_at h1;clear h2 h h1;go_enter func94,ntmps94;go_wp2;go_loopw [5] (λ e' wr=>∃j:Nat,i≤j∧j≤t.size∧e'=.int .i64 j∧wr=w∧Hid (∀k,i≤k→k<j→g (aD t k)=true)) (λ e' _=>t.size - (intOf e').toNat)
 case atStart=>exact⟨i,Nat.le_refl _,hle,rfl,rfl,λ k _ _=>by omega⟩
 obtain⟨j,hij,hjs,rfl,rfl,HE⟩:=hrel;by_cases hjt:j<t.size
 ·have hjt':(j:Int)<t.size:=by omega
  have hjid:(0:Int)≤j∧(j:Int)<t.size:=by omega
  have hj8:t[j].toNat<256:=UInt8.toNat_lt _;have HB:=ah (byteAt_get t j hjt);have hcall:=λ w'=>hin t[j].toNat w' hj8;clear hin;cases hI:g t[j].toNat with
  | true=>
   rw[hI] at hcall;have HE3:Hid (∀k,i≤k→k<j+1→g (aD t k)=true):=λ k k1 k2=>by
    by_cases e:k=j
    ·subst e;rw[HB.out];exact hI
    exact HE k k1 (by omega)
   clear hI;go_wp2_with fail;go_at_call 98;refine (hcall _).mono ?_;rintro e w1 ⟨rfl,rfl⟩;go_wp2;go_roundw
   case rel=>exact⟨j+1,by omega,by omega,by go_num,trivial,HE3⟩
   case measure=>simp [intOf];omega
  | false=>
   rw[hI] at hcall;have HF:Hid (g (aD t j)=false):=by show _=_;rw[HB.out];exact hI
   have hsl2:(0:Int)≤i∧(i:Int)≤j∧(j:Int)≤t.size:=by omega
   clear hI;go_wp2_with fail;go_at_call 98;refine (hcall _).mono ?_;rintro e w1 ⟨rfl,rfl⟩;go_wp2_with fail;go_quiet (fail)
   generalize nq=q;go_wp2;go_ret
   exact⟨j,hij,hjs,HE,Or.inr HF,rfl,aP (Below.refl _ _) _⟩
 have HJ:Hid (j=t.size):=by show _=_;omega
 have hjt':¬ (j:Int)<t.size:=by omega
 have hsl2:(0:Int)≤i∧(i:Int)≤j∧(j:Int)≤t.size:=by omega
 clear hin;go_wp2_with fail;go_quiet (fail)
 generalize nq=q;go_wp2;go_ret
 exact⟨j,hij,hjs,HE,Or.inl HJ,rfl,aP (Below.refl _ _) _⟩
theorem row_note_any (h:Sc w0 w b t c p i L) (g:Nat→Bool) (hg:g=λ k=>!decide (k=10)):Calls prog 94 #[.pointer (some ⟨b,0,none⟩),.func (.func 95) #[] #[]] w λ e w'=>∃j,i≤j∧j≤t.size∧(∀k,i≤k→k<j→g (aD t k)=true)∧(j=t.size∨g (aD t j)=false)∧e=.returned (.string (t.extract i j))∧Below w.heap.size w w':=by
 have hin:∀(k:Nat) (w':World),k<256→Calls prog 95 #[.int .u8 k] w' λ e w''=>e=.returned (.bool (g k))∧w''=w':=λ k w' hk=>by rw[hg];exact note_call k w' hk
 have HG:=ah hg;clear hg;have hlen:=h.len;have hle:=h.le;obtain⟨v,h1,h2⟩:=h.blk;have hc:=cells_at h1;clear h2 h h1;go_enter func94,ntmps94;go_wp2;go_loopw [5] (λ e' wr=>∃j:Nat,i≤j∧j≤t.size∧e'=.int .i64 j∧wr=w∧Hid (∀k,i≤k→k<j→g (aD t k)=true)) (λ e' _=>t.size - (intOf e').toNat)
 case atStart=>exact⟨i,Nat.le_refl _,hle,rfl,rfl,λ k _ _=>by omega⟩
 obtain⟨j,hij,hjs,rfl,rfl,HE⟩:=hrel;by_cases hjt:j<t.size
 ·have hjt':(j:Int)<t.size:=by omega
  have hjid:(0:Int)≤j∧(j:Int)<t.size:=by omega
  have hj8:t[j].toNat<256:=UInt8.toNat_lt _;have HB:=ah (byteAt_get t j hjt);have hcall:=λ w'=>hin t[j].toNat w' hj8;clear hin;cases hI:g t[j].toNat with
  | true=>
   rw[hI] at hcall;have HE3:Hid (∀k,i≤k→k<j+1→g (aD t k)=true):=λ k k1 k2=>by
    by_cases e:k=j
    ·subst e;rw[HB.out];exact hI
    exact HE k k1 (by omega)
   clear hI;go_wp2_with fail;go_at_call 95;refine (hcall _).mono ?_;rintro e w1 ⟨rfl,rfl⟩;go_wp2;go_roundw
   case rel=>exact⟨j+1,by omega,by omega,by go_num,trivial,HE3⟩
   case measure=>simp [intOf];omega
  | false=>
   rw[hI] at hcall;have HF:Hid (g (aD t j)=false):=by show _=_;rw[HB.out];exact hI
   have hsl2:(0:Int)≤i∧(i:Int)≤j∧(j:Int)≤t.size:=by omega
   clear hI;go_wp2_with fail;go_at_call 95;refine (hcall _).mono ?_;rintro e w1 ⟨rfl,rfl⟩;go_wp2_with fail;go_quiet (fail)
   generalize nq=q;go_wp2;go_ret
   exact⟨j,hij,hjs,HE,Or.inr HF,rfl,aP (Below.refl _ _) _⟩
 have HJ:Hid (j=t.size):=by show _=_;omega
 have hjt':¬ (j:Int)<t.size:=by omega
 have hsl2:(0:Int)≤i∧(i:Int)≤j∧(j:Int)≤t.size:=by omega
 clear hin;go_wp2_with fail;go_quiet (fail)
 generalize nq=q;go_wp2;go_ret
 exact⟨j,hij,hjs,HE,Or.inl HJ,rfl,aP (Below.refl _ _) _⟩
theorem clone_any (x:ByteArray) (w:World) (hx:x.size≤4000):Calls prog 143 #[.string x] w λ e w'=>e=.returned (.string x)∧Below w.heap.size w w':=by
 have h:=λ w'=>stringslite_Clone x w' (by omega);go_enter func143,ntmps143;go_wp2_with fail;go_at_call 162;refine (h _).mono ?_;rintro e w1 ⟨rfl,hb1⟩;go_wp2;go_ret
 exact⟨rfl,hb1⟩
theorem own_block {ob : Nat} (h:w.ownsRow ob 207 3 v n xs):∀k,v.ownBlock=some k→ob≤k∧∃cur,w.heap[k]?=some (.cells cur 207 (0,0)):=by
 intro k hk;rcases h.2 with⟨rfl,_⟩|⟨g,cap,cu,rfl,hg,hh,r⟩
 ·simp [Value.ownBlock] at hk
 obtain rfl:g=k:=by simpa [Value.ownBlock] using hk
 exact⟨hg,cu,hh⟩
theorem take_end {w1 w3 : World} {k : Int} {g cap : Nat} (h:Sc w0 w1 b t c p i L) (hin:i+n≤t.size) (hn:1≤n) (h1:w1.heap[b]?=some (.cells #[.int .i64 c,.int .i64 p,.string t,.int .i64 i,v] 120 (0,0))) (hv:w1.ownsRow w0.heap.size 207 3 v L.length (toks L))
  (hown:w3.ownsRow w0.heap.size 207 3 (.slice (some ⟨g,0,none⟩) (L.length+1) cap) (L.length+1) (toks L++(⟨k,x,i⟩:Tok).cells)) (hg:(w1.alloc (.cells #[.int .i64 k,.string x,.int .i64 i] 207)).grownBy w3 v.ownBlock):
  w3.heap[b]?=some (.cells #[.int .i64 c,.int .i64 p,.string t,.int .i64 i,v] 120 (0,0))∧(w3.setCell ⟨b,4,none⟩ (.slice (some ⟨g,0,none⟩) (L.length+1) cap)).heap[b]?=some (.cells #[.int .i64 c,.int .i64 p,.string t,.int .i64 i,.slice (some ⟨g,0,none⟩) (L.length+1) cap] 120 (0,0)) ∧
   Sc w0 ((w3.setCell ⟨b,4,none⟩ (.slice (some ⟨g,0,none⟩) (L.length+1) cap)).setCell ⟨b,3,none⟩ (.int .i64 ((i:Int)+n))) b t c p (i+n) (L++[⟨k,x,i⟩]):=by
 have hlt:=h.lt;have hne:v.ownBlock≠some b:=λ e=>by
  obtain⟨_,cur,hc⟩:=own_block hv b e;rw[h1] at hc;simp at hc
 have k0:(w1.alloc (.cells #[.int .i64 k,.string x,.int .i64 i] 207)).heap[b]?=some (.cells #[.int .i64 c,.int .i64 p,.string t,.int .i64 i,v] 120 (0,0)):=(Below.heap_alloc _ _ _ hlt).trans h1;have k3:w3.heap[b]?=some (.cells #[.int .i64 c,.int .i64 p,.string t,.int .i64 i,v] 120 (0,0)):=(hg.block b (by simp;omega) (λ e=>hne e.symm)).trans k0;have k4:(w3.setCell ⟨b,4,none⟩ (.slice (some ⟨g,0,none⟩) (L.length+1) cap)).heap[b]?=some (.cells #[.int .i64 c,.int .i64 p,.string t,.int .i64 i,.slice (some ⟨g,0,none⟩) (L.length+1) cap] 120 (0,0)):=(heap_setCell_same w3 b 4 _ 120 _ k3).trans rfl;have b3:Below w0.heap.size w0 w3:=(h.below.alloc h.below.size _).grown hg (by have:=h.below.size;simp;omega) (λ q hq=>(own_block hv q hq).1);have hm:=h.many;refine⟨k3,k4,h.len,hin,by simp;omega,h.base,⟨_,(heap_setCell_same _ b 3 _ 120 _ k4).trans rfl,?_⟩,(b3.setCell h.base _).setCell h.base _⟩;rw[toks_app,show (L++[(⟨k,x,i⟩:Tok)]).length=L.length+1 by simp];exact own_set (own_set hown k3) k4
theorem take_any (h:Sc w0 w b t c p i L) (k:Int) (x:ByteArray) (n:Nat) (hn:1≤n) (hin:i+n≤t.size) (hx:x.size≤4000):Calls prog 121 #[.pointer (some ⟨b,0,none⟩),.int .i64 k,.string x,.int .i64 n] w λ e w'=>(∃v,e=.returned v)∧Sc w0 w' b t c p (i+n) (L++[⟨k,x,i⟩]):=by
 have hcl:=λ w'=>clone_any x w' hx;have HS:=ah h;have hlen:=h.len;clear h;go_enter func121,ntmps121;go_wp2;have hd:Sc w0 w.drew b t c p i L:=HS.kept (Below.refl _ _).drew;have HD:=ah hd;obtain⟨v,h1,h2⟩:=hd.blk;have hc:=cells_at h1;have H1:=ah h1;have H2:=ah h2;have hfr:=bG h1;have hmany:=hd.many;clear h1 h2 hd;obtain⟨i0,hi,hz0,hz1,hz2⟩:=info_parts info207;have hwn:IntKind.i64.wrap ((i:Int)+n)=(i:Int)+n:=by rw[IntKind.wrap_i64];omega
 refine wp_region_held_drew (S:=λ w'=>w'.cell? ⟨b,3,none⟩=some (.int .i64 i)) (by kernel_rfl) (hc 3) (λ hHeld=>?_);refine th 0 ?_;refine th 1 ?_;refine th 2 ?_;refine th 3 ?_;refine th 5 ?_;refine th 6 ?_;refine th 8 ?_;refine th 9 ?_;refine th 10 ?_;refine th 11 ?_;refine wpAnyH_ready (rs:=[4,7]) (by kernel_rfl) (by simp) ?_;refine AllReadyH.cons rfl (λ K hK=>?_) (AllReadyH.cons rfl (λ K hK=>?_) AllReadyH.nil)
 ·have hcw:=hc;go_simp;refine hK.out _ _ (hc 3) (λ hHeld1=>?_);clear hK K hcw;try simp only[qq]
  refine wpAnyH_ready (rs:=[7]) (by kernel_rfl) (by simp) ?_;refine AllReadyH.cons rfl (λ K hK=>?_) AllReadyH.nil;go_simp;refine (hcl _).mono ?_;rintro e w1 ⟨rfl,hb1⟩;have HS1:=ah (HD.kept hb1);have hbk1:w1.heap[b]?=some (.cells #[.int .i64 c,.int .i64 p,.string t,.int .i64 i,v] 120 (0,0)):=(hb1.block b HD.lt).trans H1;have HOw1:=ah (own_below H2 hb1);have hc1:=cells_at hbk1;have HBk1:=ah hbk1;clear hbk1 hb1;refine hK.out _ _ (hc1 3) (λ hHeld2=>?_);try simp only[qq]
  refine th 12 ?_;refine wpAnyH_ready (rs:=[13]) (by kernel_rfl) (by simp) ?_;refine AllReadyH.cons rfl (λ K hK=>?_) AllReadyH.nil;go_simp;have hB:(w1.alloc (.cells #[.int .i64 k,.string x,.int .i64 i] 207)).heap[w1.heap.size]?=some (.cells #[.int .i64 k,.string x,.int .i64 i] 207 (0,0)):=heap_alloc_new w1 _;have hc2:∀o,(w1.alloc (.cells #[.int .i64 k,.string x,.int .i64 i] 207)).cell? ⟨b,o,none⟩=(#[Value.int .i64 c,.int .i64 p,.string t,.int .i64 i,v])[o]?:=λ o=>(World.cell?_alloc_past _ _ _ HS1.lt).trans (hc1 o);have HO2:=ah (own_below HOw1 ((Below.refl w1.heap.size w1).alloc (Nat.le_refl _) (.cells #[.int .i64 k,.string x,.int .i64 i] 207)));refine hK.out _ _ (hc2 3) (λ hHeld3=>?_);try simp only[qq]
  refine wpAnyH_ready (rs:=[14]) (by kernel_rfl) (by simp) ?_;refine AllReadyH.cons rfl (λ K hK=>?_) AllReadyH.nil;refine step_append_lies _ rfl (.tmp 12) (.tmp 21) 106 rfl w0.heap.size 207 i0 _ 3 32 underlying106 hi hz0 hz1 hz2 rfl (by decide) v L.length (toks L) rfl HO2 ⟨w1.heap.size,0,none⟩ 1 1 [.int .i64 k,.string x,.int .i64 i] rfl rfl (World.news_of_block hB) ?_ (by decide) (by unfold maxLen;omega) (by omega) (by have:=HS1.below.size;simp;omega) _ rfl ?_
  ·intro u hu;simp at hu;rcases hu with rfl|rfl|rfl<;>rfl
  intro g cap w3 hown3 hgr _ _;obtain⟨k3,k4,kS⟩:=take_end HS1 hin hn HBk1 HOw1 hown3 hgr;have HE:=ah kS;have hc3:=cells_at k3;have hf3:=bG k3;have hc4:=cells_at k4;have hf4:=bG k4;clear kS hown3 hgr hB hc2 hc1 hc;refine hK.out _ _ (hc3 3) (λ hHeld4=>?_);try simp only[qq]
  refine th 15 ?_;refine th 16 ?_;refine wpAnyH_ready (rs:=[17]) (by kernel_rfl) (by simp) ?_;refine AllReadyH.cons rfl (λ K hK=>?_) AllReadyH.nil;go_simp;refine hK.out _ _ (hc4 3) (λ hHeld5=>?_);refine wpAnyH_done (by kernel_rfl) ?_ _;clear hHeld1 hHeld2 hHeld3 hHeld4 hHeld5;generalize hw4:w3.setCell ⟨b,4,none⟩ (.slice (some ⟨g,0,none⟩) (L.length+1) cap)=w4 at *;clear hc3 hf3 k3 k4 hw4;go_wp2;go_end0
  exact⟨⟨_,rfl⟩,HE⟩
 go_simp;refine (hcl _).mono ?_;rintro e w1 ⟨rfl,hb1⟩;have HS1:=ah (HD.kept hb1);have hbk1:w1.heap[b]?=some (.cells #[.int .i64 c,.int .i64 p,.string t,.int .i64 i,v] 120 (0,0)):=(hb1.block b HD.lt).trans H1;have HOw1:=ah (own_below H2 hb1);have hc1:=cells_at hbk1;have HBk1:=ah hbk1;clear hbk1 hb1;refine hK.out _ _ (hc1 3) (λ hHeld1=>?_);try simp only[qq]
 refine th 12 ?_;refine wpAnyH_ready (rs:=[4,13]) (by kernel_rfl) (by simp) ?_;refine AllReadyH.cons rfl (λ K hK=>?_) (AllReadyH.cons rfl (λ K hK=>?_) AllReadyH.nil)
 ·have hcw:=hc1;go_simp;refine hK.out _ _ (hc1 3) (λ hHeld2=>?_);clear hK K hcw;try simp only[qq]
  refine wpAnyH_ready (rs:=[13]) (by kernel_rfl) (by simp) ?_;refine AllReadyH.cons rfl (λ K hK=>?_) AllReadyH.nil;go_simp;have hB:(w1.alloc (.cells #[.int .i64 k,.string x,.int .i64 i] 207)).heap[w1.heap.size]?=some (.cells #[.int .i64 k,.string x,.int .i64 i] 207 (0,0)):=heap_alloc_new w1 _;have hc2:∀o,(w1.alloc (.cells #[.int .i64 k,.string x,.int .i64 i] 207)).cell? ⟨b,o,none⟩=(#[Value.int .i64 c,.int .i64 p,.string t,.int .i64 i,v])[o]?:=λ o=>(World.cell?_alloc_past _ _ _ HS1.lt).trans (hc1 o);have HO2:=ah (own_below HOw1 ((Below.refl w1.heap.size w1).alloc (Nat.le_refl _) (.cells #[.int .i64 k,.string x,.int .i64 i] 207)));refine hK.out _ _ (hc2 3) (λ hHeld3=>?_);try simp only[qq]
  refine wpAnyH_ready (rs:=[14]) (by kernel_rfl) (by simp) ?_;refine AllReadyH.cons rfl (λ K hK=>?_) AllReadyH.nil;refine step_append_lies _ rfl (.tmp 12) (.tmp 21) 106 rfl w0.heap.size 207 i0 _ 3 32 underlying106 hi hz0 hz1 hz2 rfl (by decide) v L.length (toks L) rfl HO2 ⟨w1.heap.size,0,none⟩ 1 1 [.int .i64 k,.string x,.int .i64 i] rfl rfl (World.news_of_block hB) ?_ (by decide) (by unfold maxLen;omega) (by omega) (by have:=HS1.below.size;simp;omega) _ rfl ?_
  ·intro u hu;simp at hu;rcases hu with rfl|rfl|rfl<;>rfl
  intro g cap w3 hown3 hgr _ _;obtain⟨k3,k4,kS⟩:=take_end HS1 hin hn HBk1 HOw1 hown3 hgr;have HE:=ah kS;have hc3:=cells_at k3;have hf3:=bG k3;have hc4:=cells_at k4;have hf4:=bG k4;clear kS hown3 hgr hB hc2 hc1 hc;refine hK.out _ _ (hc3 3) (λ hHeld4=>?_);try simp only[qq]
  refine th 15 ?_;refine th 16 ?_;refine wpAnyH_ready (rs:=[17]) (by kernel_rfl) (by simp) ?_;refine AllReadyH.cons rfl (λ K hK=>?_) AllReadyH.nil;go_simp;refine hK.out _ _ (hc4 3) (λ hHeld5=>?_);refine wpAnyH_done (by kernel_rfl) ?_ _;clear hHeld1 hHeld2 hHeld3 hHeld4 hHeld5;generalize hw4:w3.setCell ⟨b,4,none⟩ (.slice (some ⟨g,0,none⟩) (L.length+1) cap)=w4 at *;clear hc3 hf3 k3 k4 hw4;go_wp2;go_end0
  exact⟨⟨_,rfl⟩,HE⟩
 go_simp;have hB:(w1.alloc (.cells #[.int .i64 k,.string x,.int .i64 i] 207)).heap[w1.heap.size]?=some (.cells #[.int .i64 k,.string x,.int .i64 i] 207 (0,0)):=heap_alloc_new w1 _;have hc2:∀o,(w1.alloc (.cells #[.int .i64 k,.string x,.int .i64 i] 207)).cell? ⟨b,o,none⟩=(#[Value.int .i64 c,.int .i64 p,.string t,.int .i64 i,v])[o]?:=λ o=>(World.cell?_alloc_past _ _ _ HS1.lt).trans (hc1 o);have HO2:=ah (own_below HOw1 ((Below.refl w1.heap.size w1).alloc (Nat.le_refl _) (.cells #[.int .i64 k,.string x,.int .i64 i] 207)));refine hK.out _ _ (hc2 3) (λ hHeld2=>?_);try simp only[qq]
 refine wpAnyH_ready (rs:=[4]) (by kernel_rfl) (by simp) ?_;refine AllReadyH.cons rfl (λ K hK=>?_) AllReadyH.nil;have hcw:=hc2;go_simp;refine hK.out _ _ (hc2 3) (λ hHeld3=>?_);clear hK K hcw;try simp only[qq]
 refine wpAnyH_ready (rs:=[14]) (by kernel_rfl) (by simp) ?_;refine AllReadyH.cons rfl (λ K hK=>?_) AllReadyH.nil;refine step_append_lies _ rfl (.tmp 12) (.tmp 21) 106 rfl w0.heap.size 207 i0 _ 3 32 underlying106 hi hz0 hz1 hz2 rfl (by decide) v L.length (toks L) rfl HO2 ⟨w1.heap.size,0,none⟩ 1 1 [.int .i64 k,.string x,.int .i64 i] rfl rfl (World.news_of_block hB) ?_ (by decide) (by unfold maxLen;omega) (by omega) (by have:=HS1.below.size;simp;omega) _ rfl ?_
 ·intro u hu;simp at hu;rcases hu with rfl|rfl|rfl<;>rfl
 intro g cap w3 hown3 hgr _ _;obtain⟨k3,k4,kS⟩:=take_end HS1 hin hn HBk1 HOw1 hown3 hgr;have HE:=ah kS;have hc3:=cells_at k3;have hf3:=bG k3;have hc4:=cells_at k4;have hf4:=bG k4;clear kS hown3 hgr hB hc2 hc1 hc;refine hK.out _ _ (hc3 3) (λ hHeld4=>?_);try simp only[qq]
 refine th 15 ?_;refine th 16 ?_;refine wpAnyH_ready (rs:=[17]) (by kernel_rfl) (by simp) ?_;refine AllReadyH.cons rfl (λ K hK=>?_) AllReadyH.nil;go_simp;refine hK.out _ _ (hc4 3) (λ hHeld5=>?_);refine wpAnyH_done (by kernel_rfl) ?_ _;clear hHeld1 hHeld2 hHeld3 hHeld4 hHeld5;generalize hw4:w3.setCell ⟨b,4,none⟩ (.slice (some ⟨g,0,none⟩) (L.length+1) cap)=w4 at *;clear hc3 hf3 k3 k4 hw4;go_wp2;go_end0
 exact⟨⟨_,rfl⟩,HE⟩
def AllD (s:List UInt8):Prop:=∀c,c∈s→48≤c.toNat∧c.toNat≤57
def valN:List UInt8→Nat→Nat
 | [],a=>a
 | c::r,a=>valN r (10*a+(c.toNat - 48))
theorem eG:∀(s:List UInt8)(a:Nat),AllD s→a*10 ^ s.length≤valN s a∧valN s a+1≤(a+1)*10 ^ s.length
 | [],a,_=>by simp [valN]
 | c::r,a,h=>by
  have hc:=h c (by simp);obtain⟨h1,h2⟩:=eG r (10*a+(c.toNat - 48)) (λ x hx=>h x (by simp [hx]));simp only[List.length_cons,valN,Nat.pow_succ];have e1:a*(10 ^ r.length*10)=10*a*10 ^ r.length:=by rw[Nat.mul_comm (10 ^ r.length) 10,← Nat.mul_assoc,Nat.mul_comm a 10]
  have e2:(a+1)*(10 ^ r.length*10)=(10*a+10)*10 ^ r.length:=by rw[Nat.mul_comm (10 ^ r.length) 10,← Nat.mul_assoc,Nat.mul_comm (a+1) 10,Nat.mul_add]
  have l1:10*a*10 ^ r.length≤(10*a+(c.toNat - 48))*10 ^ r.length:=Nat.mul_le_mul_right _ (by omega);have l2:(10*a+(c.toNat - 48)+1)*10 ^ r.length≤(10*a+10)*10 ^ r.length:=Nat.mul_le_mul_right _ (by omega);rw[e1,e2];exact⟨Nat.le_trans l1 h1,Nat.le_trans h2 l2⟩
theorem val_ge (s:List UInt8) (a:Nat) (h:AllD s):a≤valN s a:=by
 have h1:=(eG s a h).1;have h2:a*1≤a*10 ^ s.length:=Nat.mul_le_mul_left _ (Nat.pow_pos (by omega));omega
theorem val_lt {x y : List UInt8} {a : Nat} (hx:AllD x) (hy:AllD y) (hl:x.length=y.length) (h:a<b):valN x a<valN y b:=by
 have h1:=(eG x a hx).2;have h2:=(eG y b hy).1;have h3:(a+1)*10 ^ x.length≤b*10 ^ y.length:=by rw[hl];exact Nat.mul_le_mul_right _ h
 omega
theorem less_val:∀(x y:List UInt8)(a:Nat),AllD x→AllD y→x.length=y.length→(Op.bytesLess x y=true→valN x a<valN y a)∧(Op.bytesLess x y=false→valN y a≤valN x a)
 | [],[],a,_,_,_=>by simp [Op.bytesLess,valN]
 | [],d::y,_,_,_,h=>by simp at h
 | c::x,[],_,_,_,h=>by simp at h
 | c::x,d::y,a,hx,hy,h=>by
  have hl:x.length=y.length:=by simpa using h
  have hx':AllD x:=λ z hz=>hx z (by simp [hz]);have hy':AllD y:=λ z hz=>hy z (by simp [hz]);have hc:=hx c (by simp);have hd:=hy d (by simp);simp only[Op.bytesLess,valN];by_cases e:c<d
  ·have e':c.toNat<d.toNat:=UInt8.lt_iff_toNat_lt.1 e;simp only[e,decide_true,Bool.true_or,true_implies,Bool.true_eq_false,false_implies,and_true];exact val_lt hx' hy' hl (by omega)
  by_cases e2:c=d
  ·subst e2;have ih:=less_val x y (10*a+(c.toNat - 48)) hx' hy' hl;simp only[e,decide_false,Bool.false_or,beq_self_eq_true,Bool.true_and];exact ih
  have e':d.toNat<c.toNat:=by
   have h1:¬ c.toNat<d.toNat:=λ q=>e (UInt8.lt_iff_toNat_lt.2 q);have h2:c.toNat≠d.toNat:=λ q=>e2 (UInt8.toNat_inj.1 q);omega
  have e3:(c == d)=false:=by simpa using e2
  simp only[e,decide_false,Bool.false_or,e3,Bool.false_and,Bool.false_eq_true,false_implies,true_implies,true_and];exact Nat.le_of_lt (val_lt hy' hx' hl.symm (by omega))
theorem less_ne:∀(x y:List UInt8)(a:Nat),AllD x→AllD y→x.length=y.length→valN x a=valN y a→x=y
 | [],[],a,_,_,_,_=>rfl
 | [],d::y,_,_,_,h,_=>by simp at h
 | c::x,[],_,_,_,h,_=>by simp at h
 | c::x,d::y,a,hx,hy,h,e=>by
  have hl:x.length=y.length:=by simpa using h
  have hx':AllD x:=λ z hz=>hx z (by simp [hz]);have hy':AllD y:=λ z hz=>hy z (by simp [hz]);have hc:=hx c (by simp);have hd:=hy d (by simp);simp only[valN] at e;rcases Nat.lt_trichotomy c.toNat d.toNat with q|q|q
  ·have:=val_lt (a:=10*a+(c.toNat - 48)) (b:=10*a+(d.toNat - 48)) hx' hy' hl (by omega);omega
  ·obtain rfl:=UInt8.toNat_inj.1 q;rw[less_ne x y _ hx' hy' hl e]
  have:=val_lt (a:=10*a+(d.toNat - 48)) (b:=10*a+(c.toNat - 48)) hy' hx' hl.symm (by omega);omega
theorem val_one {s : List UInt8} (h:AllD s) (hne:s≠[]) (hz:∀c,s.head?=some c→c.toNat≠48):10 ^ (s.length - 1)≤valN s 0:=by
 cases s with
 | nil=>exact absurd rfl hne
 | cons c r=>
  have hc:=h c (by simp);have h0:=hz c rfl;have:=(eG r (10*0+(c.toNat - 48)) (λ x hx=>h x (by simp [hx]))).1;have h1:1*10 ^ r.length≤(10*0+(c.toNat - 48))*10 ^ r.length:=Nat.mul_le_mul_right _ (by omega);simp only[List.length_cons,Nat.add_sub_cancel,valN];omega
theorem above_val {x m : List UInt8} (hx:AllD x) (hxz:1<x.length→∀c,x.head?=some c→c.toNat≠48) (hm:AllD m) (hmz:∀c,m.head?=some c→c.toNat≠48) (hmn:m≠[]) (hxn:x≠[]):
  (decide (m.length<x.length) || (decide (x.length=m.length) && !(Op.bytesLess x m || x == m)))=decide (valN m 0<valN x 0):=by
 have hml:0<m.length:=List.length_pos_iff.2 hmn;rcases Nat.lt_trichotomy x.length m.length with q|q|q
 ·have h1:=(eG x 0 hx).2;have h2:=val_one hm hmn hmz;have h3:10 ^ x.length≤10 ^ (m.length - 1):=Nat.pow_le_pow_right (by omega) (by omega);rw[decide_eq_false (show ¬ m.length<x.length by omega),decide_eq_false (show ¬ x.length=m.length by omega),decide_eq_false (show ¬ valN m 0<valN x 0 by omega)];rfl
 ·rw[decide_eq_false (show ¬ m.length<x.length by omega),decide_eq_true q];have hl:=less_val x m 0 hx hm q;cases hb:Op.bytesLess x m with
  | true=>rw[decide_eq_false (show ¬ valN m 0<valN x 0 by have:=hl.1 hb;omega)];rfl
  | false=>
   have h1:=hl.2 hb;by_cases e:x=m
   ·subst e;simp
   have h2:valN m 0≠valN x 0:=λ e2=>e (less_ne x m 0 hx hm q e2.symm);rw[decide_eq_true (show valN m 0<valN x 0 by omega)];simp [e]
 have h1:=(eG m 0 hm).2;have h2:=val_one hx hxn (hxz (by omega));have h3:10 ^ m.length≤10 ^ (x.length - 1):=Nat.pow_le_pow_right (by omega) (by omega);rw[decide_eq_true q,decide_eq_true (show valN m 0<valN x 0 by omega)];rfl
theorem uint_val (M:Nat)(hM:M≤18446744073709551615):∀(s:List UInt8) (a:Nat),AllD s→Lib.parseUintM M a s=.ok (valN s a)∨(Lib.parseUintM M a s=.range∧M<valN s a)
 | [],a,_=>Or.inl rfl
 | c::r,a,h=>by
  have hc:=h c (by simp);have hr:AllD r:=λ x hx=>h x (by simp [hx]);have hg:=val_ge r (10*a+(c.toNat - 48)) hr;have ih:=uint_val M hM r (10*a+(c.toNat - 48)) hr;have e:a*10+(c.toNat - 48)=10*a+(c.toNat - 48):=by omega
  simp only[Lib.parseUintM,if_pos hc,valN,e];split
  ·exact Or.inr ⟨rfl,by omega⟩
  split
  ·exact Or.inr ⟨rfl,by omega⟩
  exact ih
theorem int_val (B:Nat) (hB:1≤B∧B≤64) (s:List UInt8) (h:AllD s) (hne:s≠[]):Lib.parseIntB B s=if 2 ^ (B - 1)≤valN s 0 then .range else .ok (valN s 0:Int):=by
 cases s with
 | nil=>exact absurd rfl hne
 | cons c r=>
  have hc:=h c (by simp);have hp:2 ^ B≤2 ^ 64:=Nat.pow_le_pow_right (by omega) hB.2;have hp1:2 ^ (B - 1)≤2 ^ B:=Nat.pow_le_pow_right (by omega) (by omega);have hp2:1≤2 ^ (B - 1):=Nat.pow_pos (by omega);have e64:(2:Nat) ^ 64=18446744073709551616:=by decide
  rw[Lib.parseIntB_plain B c r (by omega) (by omega)];unfold Lib.parseUintB;rw[if_neg (by simp)];rcases uint_val (2 ^ B - 1) (by omega) (c::r) 0 h with e|⟨e,hl⟩
  ·rw[e];rfl
  rw[e,if_pos (by omega)];rfl
section
variable (x:ByteArray) (h:1≤x.size)
include h
theorem list_ne:x.data.toList≠[]:=λ e=>by
 have h2:=Lib.size_eq x;rw[e,List.length_nil] at h2;omega
theorem last_of:∃r c,x.data.toList=r++[c]∧r.length=x.size - 1∧aD x (x.size - 1)=c.toNat:=by
 have hne:x.data.toList≠[]:=list_ne x (by omega);have hl:=Lib.size_eq x;refine⟨x.data.toList.dropLast,x.data.toList.getLast hne,(List.dropLast_concat_getLast hne).symm,by rw[List.length_dropLast];omega,?_⟩;have hx:x.size - 1<x.size:=by omega
 unfold aD;have e:x.data[x.size - 1]?=some (x.data.toList.getLast hne):=by
  rw[← Array.getElem?_toList,List.getLast_eq_getElem];rw[List.getElem?_eq_getElem (by omega)];congr 1
  all_goals (try congr 1)
  all_goals (try omega)
 rw[e]
theorem suf_isL:Lib.hasSuffix x.data.toList [76]=isL x:=by
 obtain⟨r,c,e,_,hb⟩:=last_of x h;unfold Lib.hasSuffix isL;rw[e,hb];have:([76]:List UInt8).isSuffixOf (r++[c])=(76 == c):=by simp [List.isSuffixOf,List.isPrefixOf]
 rw[this];by_cases q:c.toNat=76
 ·have:c=76:=UInt8.toNat_inj.1 q;subst this;rfl
 have q2:¬ (76:UInt8)=c:=λ e=>q (by rw[← e];rfl);rw[decide_eq_false q];simpa using q2
theorem trim_text:(⟨(Lib.trimSuffix x.data.toList [76]).toArray⟩:ByteArray)=aK x:=by
 unfold Lib.trimSuffix aK;rw[suf_isL x h];cases isL x with
 | false=>rfl
 | true=>
  apply ByteArray.ext
  apply Array.toList_inj.1
  rw[if_pos rfl,if_pos rfl,Lib.extract_data];rw[List.drop_zero,Nat.sub_zero,Lib.size_eq];rfl
theorem text_size:(aK x).size=if isL x then x.size - 1 else x.size:=by
 unfold aK;cases isL x with
 | false=>rfl
 | true=>rw[if_pos rfl,if_pos rfl,ByteArray.size_extract];omega
theorem text_pos (hd:digB (aD x 0)=true):1≤(aK x).size:=by
 rw[text_size x h];cases hL:isL x with
 | false=>exact h
 | true=>
  have h2:2≤x.size:=by
   by_cases q:x.size=1
   ·unfold isL at hL;rw[show x.size - 1=0 by omega] at hL;have:=of_decide_eq_true hL;rw[this] at hd;exact absurd hd (by decide)
   omega
  rw[if_pos rfl];omega
end
def decB (x:ByteArray):Bool:=((List.range x.size).all λ i=>digB (aD x i)) && (decide (x.size=1) || !decide (aD x 0=48))
theorem rowC_bad (x m:ByteArray) (h1:1≤x.size) (h:decB x=false):rowC x m=2:=by
 unfold decB at h;unfold rowC;cases ha:((List.range x.size).all λ i=>digB (aD x i)) with
 | false=>rfl
 | true=>
  rw[ha,Bool.true_and,Bool.or_eq_false_iff] at h;have e1:x.size≠1:=of_decide_eq_false h.1;have e2:aD x 0=48:=by simpa using h.2
  rw[if_neg (by simp),if_pos ⟨by omega,e2⟩]
theorem byteAt_list (x:ByteArray) (i:Nat) (c:UInt8) (h:x.data.toList[i]?=some c):aD x i=c.toNat:=by
 unfold aD;rw[← Array.getElem?_toList,h]
theorem decB_all (h:decB x=true):AllD x.data.toList∧(1<x.data.toList.length→∀c,x.data.toList.head?=some c→c.toNat≠48):=by
 unfold decB at h;rw[Bool.and_eq_true] at h;refine⟨λ c hc=>?_,λ hl c hc e=>?_⟩
 ·obtain⟨i,hi,e⟩:=List.getElem_of_mem hc;have hb:=byteAt_list x i c (by rw[List.getElem?_eq_getElem hi,e]);have:=List.all_eq_true.1 h.1 i (List.mem_range.2 (by rw[Lib.size_eq];exact hi));rw[hb] at this;unfold digB at this;simpa using this
 have hb:=byteAt_list x 0 c (by rw[← List.head?_eq_getElem?];exact hc);have h2:=h.2;rw[hb,e] at h2;rw[← Lib.size_eq] at hl;simp at h2;omega
theorem most_all:AllD mostW.data.toList∧AllD mostL.data.toList:=by
 constructor<;>(intro c hc;revert c hc;decide)
theorem above_num (x m:ByteArray) (h1:1≤x.size) (h:decB x=true) (hm:AllD m.data.toList) (hmz:∀c,m.data.toList.head?=some c→c.toNat≠48) (hmn:m.data.toList≠[]):aboveB x m=decide (valN m.data.toList 0<valN x.data.toList 0):=by
 have hxn:x.data.toList≠[]:=list_ne x (by omega);rw[← above_val (decB_all h).1 (decB_all h).2 hm hmz hmn hxn];unfold aboveB;rw[Lib.toList_data,Lib.toList_data,Lib.size_eq,Lib.size_eq]
theorem rowC_w (x:ByteArray) (h1:1≤x.size) (h:decB x=true):(Lib.parseIntB 32 x.data.toList=.range∧rowC x mostW=6)∨((∃v,Lib.parseIntB 32 x.data.toList=.ok v)∧rowC x mostW=0):=by
 have hxn:x.data.toList≠[]:=list_ne x (by omega);have hA:=above_num x mostW h1 h most_all.1 (by intro c hc;revert c hc;decide) (by decide);have hr:rowC x mostW=if aboveB x mostW then 6 else 0:=by
  unfold decB at h;rw[Bool.and_eq_true] at h;unfold rowC;rw[h.1,if_neg (by simp),if_neg];intro q;have h2:=h.2;rw[q.2] at h2;simp at h2;omega
 have hv:valN mostW.data.toList 0=2147483647:=by decide
 rw[hr,hA,hv,int_val 32 (by omega) x.data.toList (decB_all h).1 hxn];by_cases q:2147483647<valN x.data.toList 0
 ·left
  rw[decide_eq_true q,if_pos (by omega)];exact⟨rfl,rfl⟩
 right
 rw[decide_eq_false q,if_neg (by omega)];exact⟨⟨_,rfl⟩,rfl⟩
theorem rowC_l (x:ByteArray) (h1:1≤x.size) (h:decB x=true):(Lib.parseIntB 64 x.data.toList=.range∧rowC x mostL=6)∨((∃v,Lib.parseIntB 64 x.data.toList=.ok v)∧rowC x mostL=0):=by
 have hxn:x.data.toList≠[]:=list_ne x (by omega);have hA:=above_num x mostL h1 h most_all.2 (by intro c hc;revert c hc;decide) (by decide);have hr:rowC x mostL=if aboveB x mostL then 6 else 0:=by
  unfold decB at h;rw[Bool.and_eq_true] at h;unfold rowC;rw[h.1,if_neg (by simp),if_neg];intro q;have h2:=h.2;rw[q.2] at h2;simp at h2;omega
 have hv:valN mostL.data.toList 0=9223372036854775807:=by decide
 rw[hr,hA,hv,int_val 64 (by omega) x.data.toList (decB_all h).1 hxn];by_cases q:9223372036854775807<valN x.data.toList 0
 ·left
  rw[decide_eq_true q,if_pos (by omega)];exact⟨rfl,rfl⟩
 right
 rw[decide_eq_false q,if_neg (by omega)];exact⟨⟨_,rfl⟩,rfl⟩
theorem pre_is (s:ByteArray) (j:Nat):pre s j=(signs.getD j []).isPrefixOf s.data.toList:=by
 unfold pre;rw[Lib.toList_data (sigN j),Lib.extract_toList,List.drop_zero,Nat.sub_zero];have e:(sigN j).size=(sigN j).data.toList.length:=Lib.size_eq _;have e2:(sigN j).data.toList=signs.getD j []:=rfl;rw[e,e2,Lib.size_eq s];exact Lib.hasPrefix_of_take s.data.toList (signs.getD j [])
def chars:List UInt8:=[123,125,40,41,59,44,46,61,60,43,45,42,47,37,38,124,94,33]
theorem sign_dots (s:ByteArray) (h:Lib.hasPrefix s.data.toList [46,46,46]=true):signOf s=⟨#[46,46,46]⟩:=by
 unfold signOf eC;rw[pre_is];have e:(signs.getD 0 [])=[46,46,46]:=rfl;rw[e,if_pos (show ([46,46,46]:List UInt8).isPrefixOf s.data.toList=true from h)];rfl
theorem sign_eqs (s:ByteArray) (h0:Lib.hasPrefix s.data.toList [46,46,46]=false) (h:Lib.hasPrefix s.data.toList [61,61]=true):signOf s=⟨#[61,61]⟩:=by
 have h0':pre s 0=false:=by rw[pre_is];exact h0
 have h1':pre s 1=true:=by rw[pre_is];exact h
 unfold signOf eC eC;rw[h0',h1'];rfl
section
variable (s:ByteArray) (c:UInt8) (r:List UInt8) (hs:s.data.toList=c::r)
include hs
theorem pre_one (j:Nat) (d:UInt8) (hj:signs.getD j []=[d]):pre s j=(d == c):=by
 rw[pre_is,hs,hj];simp [List.isPrefixOf]
theorem sign_one (h0:Lib.hasPrefix s.data.toList [46,46,46]=false) (h1:Lib.hasPrefix s.data.toList [61,61]=false) (hc:chars.contains c=true):signOf s=⟨#[c]⟩:=by
 have h0':pre s 0=false:=by rw[pre_is];exact h0
 have h1':pre s 1=false:=by rw[pre_is];exact h1
 have hp:=pre_one s c r hs;have h2:=hp 2 123 rfl;have h3:=hp 3 125 rfl;have h4:=hp 4 40 rfl;have h5:=hp 5 41 rfl;have h6:=hp 6 59 rfl;have h7:=hp 7 44 rfl;have h8:=hp 8 46 rfl;have h9:=hp 9 61 rfl;have h10:=hp 10 60 rfl;have h11:=hp 11 43 rfl;have h12:=hp 12 45 rfl;have h13:=hp 13 42 rfl;have h14:=hp 14 47 rfl;have h15:=hp 15 37 rfl;have h16:=hp 16 38 rfl;have h17:=hp 17 124 rfl;have h18:=hp 18 94 rfl;have h19:=hp 19 33 rfl;clear hp;rw[List.contains_iff_mem] at hc;simp only[chars,List.mem_cons,List.not_mem_nil,or_false] at hc;unfold signOf;simp only[eC,h0',h1',h2,h3,h4,h5,h6,h7,h8,h9,h10,h11,h12,h13,h14,h15,h16,h17,h18,h19];rcases hc with rfl|rfl|rfl|rfl|rfl|rfl|rfl|rfl|rfl|rfl|rfl|rfl|rfl|rfl|rfl|rfl|rfl|rfl<;>rfl
theorem sign_none (h0:Lib.hasPrefix s.data.toList [46,46,46]=false) (h1:Lib.hasPrefix s.data.toList [61,61]=false) (hc:chars.contains c=false):signOf s=⟨#[]⟩:=by
 have hp:=pre_one s c r hs;have hne:∀d,d∈chars→(d == c)=false:=λ d hd=>by
  rw[beq_eq_false_iff_ne];rintro rfl;rw[List.contains_iff_mem.2 hd] at hc;cases hc
 refine signFrom_skip s 20 0 (λ i _ hi=>?_);have:i=0∨i=1∨i=2∨i=3∨i=4∨i=5∨i=6∨i=7∨i=8∨i=9∨i=10∨i=11∨i=12∨i=13∨i=14∨i=15∨i=16∨i=17∨i=18∨i=19:=by omega
 rcases this with rfl|rfl|rfl|rfl|rfl|rfl|rfl|rfl|rfl|rfl|rfl|rfl|rfl|rfl|rfl|rfl|rfl|rfl|rfl|rfl
 ·rw[pre_is];exact h0
 ·rw[pre_is];exact h1
 all_goals exact (hp _ _ rfl).trans (hne _ (by decide))
end
theorem word_any (h:Sc w0 w b t c p i L) (x:ByteArray) (h1:1≤x.size) (hx:i+x.size≤t.size):Calls prog 97 #[.pointer (some ⟨b,0,none⟩),.string x] w λ e w'=>(∃v,e=.returned v)∧if 16<x.size then Sc w0 w' b t 1 i i L else Sc w0 w' b t c p (i+x.size) (L++[⟨1,x,i⟩]):=by
 have hlen:=h.len;by_cases h16:16<x.size
 ·rw[show (λ (e:Ending) (w':World)=>(∃v,e=.returned v)∧if 16<x.size then Sc w0 w' b t 1 i i L else Sc w0 w' b t c p (i+x.size) (L++[⟨1,x,i⟩]))=λ e w'=>(∃v,e=.returned v)∧Sc w0 w' b t 1 i i L from funext λ e=>funext λ w'=>by rw[if_pos h16]];have hf:=fail_any h 1;have d:(16:Int)<x.size:=by omega
  go_enter func97,ntmps97;go_wp2_with fail;go_at_call 120;refine hf.mono ?_;rintro e w1 ⟨⟨v,rfl⟩,hS⟩;have HS:=ah hS;clear hS;go_wp2;refine br (results_none rfl _ _ _) ?_;exact⟨⟨_,rfl⟩,HS⟩
 rw[show (λ (e:Ending) (w':World)=>(∃v,e=.returned v)∧if 16<x.size then Sc w0 w' b t 1 i i L else Sc w0 w' b t c p (i+x.size) (L++[⟨1,x,i⟩]))=λ e w'=>(∃v,e=.returned v)∧Sc w0 w' b t c p (i+x.size) (L++[⟨1,x,i⟩]) from funext λ e=>funext λ w'=>by rw[if_neg h16]];have hf:=take_any h 1 x x.size h1 hx (by omega);have d:¬ (16:Int)<x.size:=by omega
 go_enter func97,ntmps97;go_wp2_with fail;go_at_call 121;refine hf.mono ?_;rintro e w1 ⟨⟨v,rfl⟩,hS⟩;have HS:=ah hS;clear hS;go_wp2;go_end0
 exact⟨⟨_,rfl⟩,HS⟩
theorem decimal_any (x:ByteArray) (w:World) (h1:1≤x.size) (hx:x.size≤4000):Calls prog 123 #[.string x] w λ e w'=>e=.returned (.bool (decB x))∧w'=w:=by
 obtain⟨r,hr⟩:∃r,r=decB x:=⟨_,rfl⟩
 rw[← hr];have HR:=ah hr;clear hr;go_enter func123,ntmps123;go_wp2;go_loopw [6] (λ e' wr=>∃j:Nat,j≤x.size∧e'=.int .i64 j∧wr=w∧Hid (∀k,k<j→digB (aD x k)=true)) (λ e' _=>x.size - (intOf e').toNat)
 case atStart=>exact⟨0,Nat.zero_le _,rfl,rfl,λ k _=>by omega⟩
 obtain⟨j,hjs,rfl,rfl,HE⟩:=hrel;by_cases hjt:j<x.size
 ·have hjt':(j:Int)<x.size:=by omega
  have hjid:(0:Int)≤j∧(j:Int)<x.size:=by omega
  have hj8:x[j].toNat<256:=UInt8.toNat_lt _;have HB:=ah (byteAt_get x j hjt);have hcall:=λ w'=>pdigit_any x[j].toNat w' hj8;cases hI:digB x[j].toNat with
  | true=>
   rw[hI] at hcall;have HE3:Hid (∀k,k<j+1→digB (aD x k)=true):=λ k k2=>by
    by_cases e:k=j
    ·subst e;rw[HB.out];exact hI
    exact HE k (by omega)
   clear hI;go_wp2_with fail;go_at_call 99;refine (hcall _).mono ?_;rintro e w1 ⟨rfl,rfl⟩;go_wp2;go_roundw
   case rel=>exact⟨j+1,by omega,by go_num,trivial,HE3⟩
   case measure=>simp [intOf];omega
  | false=>
   rw[hI] at hcall;have hrf:r=false:=by
    rw[HR.out];unfold decB;have:((List.range x.size).all λ i=>digB (aD x i))=false:=by
     rw[Bool.eq_false_iff];intro e;have:=List.all_eq_true.1 e j (List.mem_range.2 hjt);rw[HB.out,hI] at this;cases this
    rw[this];rfl
   clear hI;go_wp2_with fail;go_at_call 99;refine (hcall _).mono ?_;rintro e w1 ⟨rfl,rfl⟩;go_wp2;go_ret
   exact⟨by rw[hrf];rfl,rfl⟩
 have hjn:j=x.size:=by omega
 subst hjn;have hjt':¬ (x.size:Int)<x.size:=by omega
 have h0:0<x.size:=by omega
 have h0i:(0:Int)<x.size:=by omega
 have HA:Hid (r=(decide (x.size=1) || !decide (aD x 0=48))):=by
  show _=_;rw[HR.out];unfold decB;rw[List.all_eq_true.2 (λ i hi=>HE.out i (List.mem_range.1 hi)),Bool.true_and]
 have HB:=ah (byteAt_get x 0 h0);by_cases e1:x.size=1
 ·have d1:((x.size:Int) == 1)=true:=by simp;omega
  have hrt:r=true:=by rw[HA.out,decide_eq_true e1];rfl
  clear e1;go_wp2;go_ret
  exact⟨rfl,rfl⟩
 have d1:((x.size:Int) == 1)=false:=by simp;omega
 by_cases e2:x[0].toNat=48
 ·have d2:((x[0].toNat:Int) != 48)=false:=by simp;omega
  have hrt:r=false:=by rw[HA.out,decide_eq_false e1,HB.out,decide_eq_true e2];rfl
  clear e2 e1;go_wp2;go_ret
  exact⟨rfl,rfl⟩
 have d2:((x[0].toNat:Int) != 48)=true:=by simp;omega
 have hrt:r=true:=by rw[HA.out,decide_eq_false e1,HB.out,decide_eq_false e2];rfl
 clear e2 e1;go_wp2;go_ret
 exact⟨rfl,rfl⟩
def Gl (w:World):Prop:=∃te pe,w.cell? ⟨2,0,none⟩=some (.iface te pe)
theorem Gl.lt (h:Gl w):2<w.heap.size:=by
 obtain⟨te,pe,h⟩:=h;exact Lib.lt_of_cell h
theorem Gl.below (h:Gl w) (hb:Below w.heap.size w w'):Gl w':=by
 have hl:=h.lt;obtain⟨te,pe,h⟩:=h;exact⟨te,pe,(hb.cell (p:=⟨2,0,none⟩) hl).trans h⟩
theorem below_bytes (h:w'=w∨∃t,w'=Lib.bytesWorld w 5 t):Below w.heap.size w w':=by
 rcases h with rfl|⟨t,rfl⟩
 ·exact Below.refl _ _
 exact Lib.bytesWorld_below _ _ _
def NumPost (w0 w':World)(b:Nat)(t:ByteArray)(c p:Int)(i:Nat)(L:List Tok)(x:ByteArray):Prop:=if cF x=0 then Sc w0 w' b t c p (i+x.size) (L++[⟨if isL x then 3 else 2,aK x,i⟩]) else Sc w0 w' b t (cF x) i i L
theorem num_bad {q : Int} (h:cF x=q) (hq:q≠0) (hs:Sc w0 w' b t q i i L):NumPost w0 w' b t c p i L x:=by
 unfold NumPost;rw[h,if_neg hq];exact hs
theorem num_ok (h:cF x=0) (hs:Sc w0 w' b t c p (i+x.size) (L++[⟨if isL x then 3 else 2,aK x,i⟩])):NumPost w0 w' b t c p i L x:=by
 unfold NumPost;rw[h,if_pos rfl];exact hs
theorem number_any (G:Gl w0) (h:Sc w0 w b t c p i L) (x:ByteArray) (h1:1≤x.size) (hx:i+x.size≤t.size) (hd:digB (aD x 0)=true):Calls prog 100 #[.pointer (some ⟨b,0,none⟩),.string x] w λ e w'=>(∃v,e=.returned v)∧NumPost w0 w' b t c p i L x:=by
 have hlen:=h.len;have hcut:=λ w'=>strings_CutSuffix x ⟨#[76]⟩ w' (by omega);rw[show (⟨#[76]⟩:ByteArray).data.toList=[76] from rfl,trim_text x h1,suf_isL x h1] at hcut;have hp:=text_pos x h1 hd;have hps:=text_size x h1;have hps2:(aK x).size≤4000:=by rw[hps];split<;>omega
 have HRC:Hid (cF x=rowC (aK x) (if isL x then mostL else mostW)):=rfl;have hdec:=λ w'=>decimal_any (aK x) w' hp hps2;have HBad:=ah (rowC_bad (aK x) (if isL x then mostL else mostW) hp);have HW:=ah (rowC_w (aK x) hp);have HL:=ah (rowC_l (aK x) hp);have HOk:Hid (∀w':World,cF x=0→Sc w0 w' b t c p (i+x.size) (L++[⟨if isL x then 3 else 2,aK x,i⟩])→NumPost w0 w' b t c p i L x):=λ w' h1 h2=>num_ok h1 h2;clear hps;have hk:∀w' k,Sc w0 w' b t c p i L→Calls prog 121 #[.pointer (some ⟨b,0,none⟩),.int .i64 k,.string (aK x),.int .i64 x.size] w' λ e w''=>(∃v,e=.returned v)∧Sc w0 w'' b t c p (i+x.size) (L++[⟨k,aK x,i⟩]):=λ w' k hs=>take_any hs k (aK x) x.size h1 hx hps2;have hfl:=λ w' (hs:Sc w0 w' b t c p i L) q=>fail_any hs q;have HS:=ah h;clear h;have hok32:∀v,Lib.parseIntB 32 (aK x).data.toList=.ok v→∀w',Calls prog 124 #[.string (aK x),.int .i64 10,.int .i64 32] w' λ e w''=>e=.returned (.tuple #[.int .i64 v,.nilIface])∧(w''=w'∨∃t,w''=Lib.bytesWorld w' 5 t):=λ v hv w'=>strconv_ParseInt_10_at32_ok (aK x) (by omega) v hv w';have hok64:∀v,Lib.parseIntB 64 (aK x).data.toList=.ok v→∀w',Calls prog 124 #[.string (aK x),.int .i64 10,.int .i64 64] w' λ e w''=>e=.returned (.tuple #[.int .i64 v,.nilIface])∧(w''=w'∨∃t,w''=Lib.bytesWorld w' 5 t):=λ v hv w'=>strconv_ParseInt_10_at64_ok (aK x) (by omega) v hv w';have hr32:Lib.parseIntB 32 (aK x).data.toList=.range→∀w' te pe,w'.cell? ⟨2,0,none⟩=some (.iface te pe)→Calls prog 124 #[.string (aK x),.int .i64 10,.int .i64 32] w' λ e w''=>∃N,e=.returned (.tuple #[.int .i64 (Lib.intSat 32 (aK x).data.toList),.iface 224 (.pointer (some ⟨N,0,none⟩))])∧Below w'.heap.size w' w'':=λ hv w' te pe he=>(strconv_ParseInt_10_at32_range (aK x) (by omega) hv _ w' he (Or.inr ⟨te,pe,rfl⟩)).mono λ e w'' ⟨N,h1,_,_,h2⟩=>⟨N,h1,h2⟩
 have hr64:Lib.parseIntB 64 (aK x).data.toList=.range→∀w' te pe,w'.cell? ⟨2,0,none⟩=some (.iface te pe)→Calls prog 124 #[.string (aK x),.int .i64 10,.int .i64 64] w' λ e w''=>∃N,e=.returned (.tuple #[.int .i64 (Lib.intSat 64 (aK x).data.toList),.iface 224 (.pointer (some ⟨N,0,none⟩))])∧Below w'.heap.size w' w'':=λ hv w' te pe he=>(strconv_ParseInt_10_at64_range (aK x) (by omega) hv _ w' he (Or.inr ⟨te,pe,rfl⟩)).mono λ e w'' ⟨N,h1,_,_,h2⟩=>⟨N,h1,h2⟩
 have hGw:=G.below HS.below;generalize (aK x)=y at *;cases hI:isL x with
 | false=>
  rw[hI] at hcut HRC HBad HOk;clear hI;cases hD:decB y with
  | false=>
   rw[hD] at hdec;have hc2:=HBad hD;have HQ:Hid (cF x=2):=HRC.trans hc2;have hf:=hfl w HS 2;clear hc2 HBad HW HL hok32 hok64 hr32 hr64 hk hfl;go_enter func100,ntmps100;go_wp2_with fail;go_at_call 122;refine (hcut _).mono ?_;rintro e w1 ⟨rfl,rfl⟩;go_wp2_with fail;go_at_call 123;refine (hdec _).mono ?_;rintro e w1 ⟨rfl,rfl⟩;go_wp2_with fail;go_at_call 120;refine hf.mono ?_;rintro e w1 ⟨⟨v,rfl⟩,hS⟩;have HS1:=ah hS;clear hS;go_wp2;refine br (results_none rfl _ _ _) ?_;exact⟨⟨_,rfl⟩,num_bad HQ (by decide) HS1⟩
  | true=>
   rw[hD] at hdec;rcases HW hD with⟨hv,hc2⟩|⟨⟨vv,hv⟩,hc2⟩
   ·have HQ:Hid (cF x=6):=HRC.trans hc2;obtain⟨te,pe,hcell⟩:=hGw;have hpi:=hr32 hv w te pe hcell;have HSk:=HS;clear hc2 HBad HW HL hok32 hok64 hr32 hr64 hk hcell hv;generalize Lib.intSat 32 y.data.toList=sat at hpi;go_enter func100,ntmps100;go_wp2_with fail;go_at_call 122;refine (hcut _).mono ?_;rintro e w1 ⟨rfl,rfl⟩;go_wp2_with fail;go_at_call 123;refine (hdec _).mono ?_;rintro e w1 ⟨rfl,rfl⟩;go_wp2_with fail;go_at_call 124;refine hpi.mono ?_;rintro e w2 ⟨N,rfl,hb2⟩;have hf:=hfl w2 (HSk.kept hb2) 6;clear hfl;go_wp2_with fail;go_at_call 120;refine hf.mono ?_;rintro e w3 ⟨⟨v,rfl⟩,hS⟩;have HS1:=ah hS;clear hS;go_wp2;refine br (results_none rfl _ _ _) ?_;exact⟨⟨_,rfl⟩,num_bad HQ (by decide) HS1⟩
   have HQ:Hid (cF x=0):=HRC.trans hc2;have hpi:=hok32 vv hv w;clear hc2 HBad HW HL hok32 hok64 hr32 hr64 hfl hv hGw;go_enter func100,ntmps100;go_wp2_with fail;go_at_call 122;refine (hcut _).mono ?_;rintro e w1 ⟨rfl,rfl⟩;go_wp2_with fail;go_at_call 123;refine (hdec _).mono ?_;rintro e w1 ⟨rfl,rfl⟩;go_wp2_with fail;go_at_call 124;refine hpi.mono ?_;rintro e w2 ⟨rfl,hb2⟩;have hf:=hk w2 2 (HS.kept (below_bytes hb2));clear hk;go_wp2_with fail;go_at_call 121;refine hf.mono ?_;rintro e w3 ⟨⟨v,rfl⟩,hS⟩;have HS1:=ah hS;clear hS;go_wp2;go_end0
   exact⟨⟨_,rfl⟩,HOk _ HQ HS1⟩
 | true=>
  rw[hI] at hcut HRC HBad HOk;clear hI;cases hD:decB y with
  | false=>
   rw[hD] at hdec;have hc2:=HBad hD;have HQ:Hid (cF x=2):=HRC.trans hc2;have hf:=hfl w HS 2;clear hc2 HBad HW HL hok32 hok64 hr32 hr64 hk hfl;go_enter func100,ntmps100;go_wp2_with fail;go_at_call 122;refine (hcut _).mono ?_;rintro e w1 ⟨rfl,rfl⟩;go_wp2_with fail;go_at_call 123;refine (hdec _).mono ?_;rintro e w1 ⟨rfl,rfl⟩;go_wp2_with fail;go_at_call 120;refine hf.mono ?_;rintro e w1 ⟨⟨v,rfl⟩,hS⟩;have HS1:=ah hS;clear hS;go_wp2;refine br (results_none rfl _ _ _) ?_;exact⟨⟨_,rfl⟩,num_bad HQ (by decide) HS1⟩
  | true=>
   rw[hD] at hdec;rcases HL hD with⟨hv,hc2⟩|⟨⟨vv,hv⟩,hc2⟩
   ·have HQ:Hid (cF x=6):=HRC.trans hc2;obtain⟨te,pe,hcell⟩:=hGw;have hpi:=hr64 hv w te pe hcell;have HSk:=HS;clear hc2 HBad HW HL hok32 hok64 hr32 hr64 hk hcell hv;generalize Lib.intSat 64 y.data.toList=sat at hpi;go_enter func100,ntmps100;go_wp2_with fail;go_at_call 122;refine (hcut _).mono ?_;rintro e w1 ⟨rfl,rfl⟩;go_wp2_with fail;go_at_call 123;refine (hdec _).mono ?_;rintro e w1 ⟨rfl,rfl⟩;go_wp2_with fail;go_at_call 124;refine hpi.mono ?_;rintro e w2 ⟨N,rfl,hb2⟩;have hf:=hfl w2 (HSk.kept hb2) 6;clear hfl;go_wp2_with fail;go_at_call 120;refine hf.mono ?_;rintro e w3 ⟨⟨v,rfl⟩,hS⟩;have HS1:=ah hS;clear hS;go_wp2;refine br (results_none rfl _ _ _) ?_;exact⟨⟨_,rfl⟩,num_bad HQ (by decide) HS1⟩
   have HQ:Hid (cF x=0):=HRC.trans hc2;have hpi:=hok64 vv hv w;clear hc2 HBad HW HL hok32 hok64 hr32 hr64 hfl hv hGw;go_enter func100,ntmps100;go_wp2_with fail;go_at_call 122;refine (hcut _).mono ?_;rintro e w1 ⟨rfl,rfl⟩;go_wp2_with fail;go_at_call 123;refine (hdec _).mono ?_;rintro e w1 ⟨rfl,rfl⟩;go_wp2_with fail;go_at_call 124;refine hpi.mono ?_;rintro e w2 ⟨rfl,hb2⟩;have hf:=hk w2 3 (HS.kept (below_bytes hb2));clear hk;go_wp2_with fail;go_at_call 121;refine hf.mono ?_;rintro e w3 ⟨⟨v,rfl⟩,hS⟩;have HS1:=ah hS;clear hS;go_wp2;go_end0
   exact⟨⟨_,rfl⟩,HOk _ HQ HS1⟩
def SgPost (w0 w':World)(b:Nat)(t:ByteArray)(c p:Int)(i:Nat)(L:List Tok)(s:ByteArray):Prop:=if s.size=0 then Sc w0 w' b t 2 i i L else Sc w0 w' b t c p (i+s.size) (L++[⟨4,s,i⟩])
theorem sg_ok (e:s=x) (h:x.size≠0) (hs:Sc w0 w' b t c p (i+x.size) (L++[⟨4,x,i⟩])):SgPost w0 w' b t c p i L s:=by
 unfold SgPost;subst e;rw[if_neg h];exact hs
theorem sg_bad (e:s=⟨#[]⟩) (hs:Sc w0 w' b t 2 i i L):SgPost w0 w' b t c p i L s:=by
 unfold SgPost;subst e;rw[if_pos (show (⟨#[]⟩:ByteArray).size=0 from rfl)];exact hs
theorem pre_size {x : List UInt8} (h:Lib.hasPrefix s.data.toList x=true):x.length≤s.size:=by
 have:=(List.isPrefixOf_iff_prefix.1 h).length_le;rw[Lib.size_eq];exact this
theorem psign_any (h:Sc w0 w b t c p i L) (hi:i<t.size):Calls prog 101 #[.pointer (some ⟨b,0,none⟩)] w λ e w'=>(∃v,e=.returned v)∧SgPost w0 w' b t c p i L (signOf (t.extract i t.size)):=by
 have hlen:=h.len;have HS:=ah h;obtain⟨v,h1,h2⟩:=h.blk;have hc:=cells_at h1;clear h h1 h2;have hsl:(0:Int)≤i∧(i:Int)≤t.size:=by omega
 obtain⟨s,hse⟩:∃s,s=t.extract i t.size:=⟨_,rfl⟩
 rw[← hse];have HSe:=ah hse;clear hse;go_enter func101,ntmps101;go_wp2_with fail;go_quiet (fail)
 generalize nq=q;have hS:Sc w0 (w.drewN q) b t c p i L:=HS.kept (aP (Below.refl _ _) _);have HS1:=ah hS;clear hS HS hc;generalize w.drewN q=w1 at *;obtain⟨r,hr⟩:∃r,(t.extract i t.size).data.toList=t[i]::r:=⟨t.data.toList.drop (i+1),by
  rw[Lib.extract_data,List.take_of_length_le (by rw[List.length_drop,← Lib.size_eq];exact Nat.le_refl _),List.drop_eq_getElem_cons (by rw[← Lib.size_eq];exact hi)];rfl⟩
 have hss:(t.extract i t.size).size=t.size - i:=by rw[ByteArray.size_extract];omega
 generalize t[i]=cb at *;have hse:=HSe.out;clear HSe;generalize t.extract i t.size=s1 at *;subst hse;have hs1:1≤s.size:=by omega
 have hone:s.extract 0 1=⟨#[cb]⟩:=by
  apply ByteArray.ext
  apply Array.toList_inj.1
  rw[Lib.extract_data,hr];rfl
 have HR:=ah hr;have hcon:∀w',Calls prog 126 #[.string ⟨#[123,125,40,41,59,44,46,61,60,43,45,42,47,37,38,124,94,33]⟩,.string ⟨#[cb]⟩] w' λ e w''=>e=.returned (.bool (chars.contains cb))∧w''=w':=λ w'=>by
  rw[Lib.contains_iff_indexByte];exact strings_Contains_one ⟨#[123,125,40,41,59,44,46,61,60,43,45,42,47,37,38,124,94,33]⟩ cb w'
 have hp0:=λ w'=>strings_HasPrefix s ⟨#[46,46,46]⟩ w';have hp1:=λ w'=>strings_HasPrefix s ⟨#[61,61]⟩ w';rw[show (⟨#[46,46,46]⟩:ByteArray).data.toList=[46,46,46] from rfl] at hp0;rw[show (⟨#[61,61]⟩:ByteArray).data.toList=[61,61] from rfl] at hp1;have HD:=ah (sign_dots s);have HE:=ah (sign_eqs s);have HO:=ah (sign_one s cb r HR);have HN:=ah (sign_none s cb r HR);have HZ0:Hid (Lib.hasPrefix s.data.toList [46,46,46]=true→3≤s.size):=λ h=>pre_size h;have HZ1:Hid (Lib.hasPrefix s.data.toList [61,61]=true→2≤s.size):=λ h=>pre_size h;clear hr;have hcap:(1:Int)≤s.size:=by omega
 have hcap2:(0:Int)≤1∧(1:Int)≤s.size:=by omega
 have HSz:=ah hss;clear hss;generalize hB0:Lib.hasPrefix s.data.toList [46,46,46]=b0 at *;generalize hB1:Lib.hasPrefix s.data.toList [61,61]=b1 at *;have HB0:=ah hB0;have HB1:=ah hB1;clear hB0 hB1;have x0:∀w:World,(Instr.index 194 (.agg #[.string ⟨#[46,46,46]⟩,.string ⟨#[61,61]⟩]) (.int .i64 0)).run prog w=.ok (.string ⟨#[46,46,46]⟩) w:=λ_=>by kernel_rfl
 have x1:∀w:World,(Instr.index 194 (.agg #[.string ⟨#[46,46,46]⟩,.string ⟨#[61,61]⟩]) (.int .i64 1)).run prog w=.ok (.string ⟨#[61,61]⟩) w:=λ_=>by kernel_rfl
 go_wp2;go_loopw [15] (λ e' wr=>∃j:Nat,j≤2∧e'=.int .i64 j∧wr=w1∧Hid (0<j→b0=false)∧Hid (1<j→b1=false)) (λ e' _=>2 - (intOf e').toNat)
 case atStart=>exact⟨0,Nat.zero_le _,rfl,rfl,λ h=>by omega,λ h=>by omega⟩
 obtain⟨j,hj,rfl,rfl,H0,H1⟩:=hrel;have hj3:j=0∨j=1∨j=2:=by omega
 rcases hj3 with rfl|rfl|rfl
 ·cases b0 with
  | true=>
   have hf:=take_any HS1 4 ⟨#[46,46,46]⟩ 3 (by omega) (by have:=HZ0 rfl;have:=HSz.out;omega) (by decide);have HQ:=ah (HD rfl);go_wp2_with fail;go_at_call 125;refine (hp0 _).mono ?_;rintro e w2 ⟨rfl,rfl⟩;go_wp2_with fail;go_at_call 121;refine hf.mono ?_;rintro e w3 ⟨⟨v,rfl⟩,hS⟩;have HS2:=ah hS;clear hS;go_wp2;refine br (results_none rfl _ _ _) ?_;exact⟨⟨_,rfl⟩,sg_ok HQ (by decide) HS2⟩
  | false=>
   go_wp2_with fail;go_at_call 125;refine (hp0 _).mono ?_;rintro e w2 ⟨rfl,rfl⟩;go_wp2;go_roundw
   case rel=>exact⟨1,by omega,rfl,trivial,λ_=>trivial,λ h=>by omega⟩
   case measure=>simp [intOf]
 ·obtain rfl:b0=false:=H0 (by omega);cases b1 with
  | true=>
   have hf:=take_any HS1 4 ⟨#[61,61]⟩ 2 (by omega) (by have:=HZ1 rfl;have:=HSz.out;omega) (by decide);have HQ:=ah (HE rfl rfl);go_wp2_with fail;go_at_call 125;refine (hp1 _).mono ?_;rintro e w2 ⟨rfl,rfl⟩;go_wp2_with fail;go_at_call 121;refine hf.mono ?_;rintro e w3 ⟨⟨v,rfl⟩,hS⟩;have HS2:=ah hS;clear hS;go_wp2;refine br (results_none rfl _ _ _) ?_;exact⟨⟨_,rfl⟩,sg_ok HQ (by decide) HS2⟩
  | false=>
   go_wp2_with fail;go_at_call 125;refine (hp1 _).mono ?_;rintro e w2 ⟨rfl,rfl⟩;go_wp2;go_roundw
   case rel=>exact⟨2,by omega,rfl,trivial,λ_=>trivial,λ_=>trivial⟩
   case measure=>simp [intOf]
 obtain rfl:b0=false:=H0 (by omega);obtain rfl:b1=false:=H1 (by omega);cases hC:chars.contains cb with
 | true=>
  have HQ:=ah (HO rfl rfl hC);rw[hC] at hcon;have hf:=take_any HS1 4 ⟨#[cb]⟩ 1 (by omega) (by have:=HSz.out;omega) (by show 1≤4000;decide);clear hC;go_wp2_with fail;go_at_call 126;refine (hcon _).mono ?_;rintro e w2 ⟨rfl,rfl⟩;go_wp2_with fail;go_at_call 121;refine hf.mono ?_;rintro e w3 ⟨⟨v,rfl⟩,hS⟩;have HS2:=ah hS;clear hS;go_wp2;go_end0
  exact⟨⟨_,rfl⟩,sg_ok HQ (by show (1:Nat)≠0;decide) HS2⟩
 | false=>
  have HQ:=ah (HN rfl rfl hC);rw[hC] at hcon;have hf:=fail_any HS1 2;clear hC;go_wp2_with fail;go_at_call 126;refine (hcon _).mono ?_;rintro e w2 ⟨rfl,rfl⟩;go_wp2_with fail;go_at_call 120;refine hf.mono ?_;rintro e w3 ⟨⟨v,rfl⟩,hS⟩;have HS2:=ah hS;clear hS;go_wp2;refine br (results_none rfl _ _ _) ?_;exact⟨⟨_,rfl⟩,sg_bad HQ HS2⟩
def atOf (w:World)(b:Nat):Nat:=match w.cell? ⟨b,3,none⟩ with|some (.int _ q)=>q.toNat|_=>0
theorem Sc.atOf (h:Sc w0 w b t c p i L):atOf w b=i:=by
 obtain⟨v,h1,_⟩:=h.blk;have:=cells_at h1 3;unfold X.atOf;rw[this];simp
theorem pass_any (h:Sc w0 w b t c p i L):Calls prog 63 #[.pointer (some ⟨b,0,none⟩)] w λ e w'=>(∃v,e=.returned v)∧∃j,i≤j∧Sc w0 w' b t c p j L∧(∀l,bV t i false l=bV t j false l)∧(j=t.size∨blank false (aD t j)=false):=by
 have HS:=ah h;clear h;go_enter func63,ntmps63;go_wp2_with fail;refine wp_scope_jumps 0 (λ a' w'=>∃j,i≤j∧Hid (Sc w0 w' b t c p j L)∧Hid (∀l,bV t i false l=bV t j false l)∧∃(u2 u3 u4 u5 u6 u7 u8 u9 u10 u11 u12 u13 u14 u15 u16 u17 u18 u19 u20 u21 u22 u23 u24 u25 u26 u27 u28 u29 u30 u31 u32 u33 u34 u35 u36 u37 u38 u39 u40 u41 u42 u43 u44:Value),a'={ tmps:=#[.pointer (some ⟨b,0,none⟩),undef,u2,u3,u4,u5,u6,u7,u8,u9,u10,u11,u12,u13,u14,u15,u16,u17,u18,u19,u20,u21,u22,u23,u24,u25,u26,u27,u28,u29,u30,u31,u32,u33,u34,u35,u36,u37,u38,u39,u40,u41,u42,u43,u44],defers:=[] }) (λ_ w'=>t.size - X.atOf w' b) rfl ?_ ?_
 ·have hlen:=HS.len;have hle:=HS.le;obtain⟨v,h1,h2⟩:=HS.blk;have hc:=cells_at h1;have hf:=bG h1;have hat:=HS.many;clear h2 h1;go_wp2_with fail;go_step3
  by_cases hlt:i<t.size
  ·have hlt':(i:Int)<t.size:=by omega
   have e0:((i:Int) == t.size)=false:=by simp;omega
   have hidx:(0:Int)≤i∧(i:Int)<t.size:=by omega
   have HBy:=ah (byteAt_get t i hlt);have hw1:IntKind.i64.wrap ((i:Int)+1)=((i+1:Nat):Int):=by rw[IntKind.wrap_i64];omega
   by_cases c32:t[i].toNat=32
   ·have e32:((t[i].toNat:Int) == 32)=true:=by simp;omega
    have HN:=ah (pass_blank t i hlt (Or.inl (HBy.trans c32)));clear c32;go_wp2_with fail;go_quiet (fail)
    generalize nq=q1;go_wp2_with fail;go_quiet (fail)
    generalize nq=q2;have hS2:Sc w0 ((w.drewN q1).drewN q2) b t c p i L:=HS.kept (aP (aP (Below.refl _ _) _) _);generalize (w.drewN q1).drewN q2=w2 at *;obtain⟨v2,k1,k2⟩:=hS2.blk;have hc2:=cells_at k1;have hf2:=bG k1;have HS2:=ah hS2;clear hS2 k1 k2 hc hf;have HN1:Hid (Sc w0 (w2.setCell ⟨b,3,none⟩ (.int .i64 ((i:Int)+1))) b t c p (i+1) L):=HS2.at (i+1) (by omega) (by omega);go_wp2;go_step3
    refine⟨rfl,⟨_,by omega,HN1,λ l=>HN l,_,_,_,_,_,_,_,_,_,_,_,_,_,_,_,_,_,_,_,_,_,_,_,_,_,_,_,_,_,_,_,_,_,_,_,_,_,_,_,_,_,_,_,rfl⟩⟩
   have e32:((t[i].toNat:Int) == 32)=false:=by simp;omega
   by_cases c10:t[i].toNat=10
   ·have e10:((t[i].toNat:Int) == 10)=true:=by simp;omega
    have HN:=ah (pass_blank t i hlt (Or.inr (HBy.trans c10)));clear c10 c32;go_wp2_with fail;go_quiet (fail)
    generalize nq=q1;go_wp2_with fail;go_quiet (fail)
    generalize nq=q2;have hS2:Sc w0 ((w.drewN q1).drewN q2) b t c p i L:=HS.kept (aP (aP (Below.refl _ _) _) _);generalize (w.drewN q1).drewN q2=w2 at *;obtain⟨v2,k1,k2⟩:=hS2.blk;have hc2:=cells_at k1;have hf2:=bG k1;have HS2:=ah hS2;clear hS2 k1 k2 hc hf;have HN1:Hid (Sc w0 (w2.setCell ⟨b,3,none⟩ (.int .i64 ((i:Int)+1))) b t c p (i+1) L):=HS2.at (i+1) (by omega) (by omega);go_wp2;go_step3
    refine⟨rfl,⟨_,by omega,HN1,λ l=>HN l,_,_,_,_,_,_,_,_,_,_,_,_,_,_,_,_,_,_,_,_,_,_,_,_,_,_,_,_,_,_,_,_,_,_,_,_,_,_,_,_,_,_,_,rfl⟩⟩
   have e10:((t[i].toNat:Int) == 10)=false:=by simp;omega
   by_cases c35:t[i].toNat=35
   ·have e35:((t[i].toNat:Int) == 35)=true:=by simp;omega
    have H35:=ah (HBy.trans c35);clear c10 c32 c35;go_wp2_with fail;go_quiet (fail)
    generalize nq=q1;go_wp2_with fail;go_quiet (fail)
    generalize nq=q2;have hS2:Sc w0 ((w.drewN q1).drewN q2) b t c p i L:=HS.kept (aP (aP (Below.refl _ _) _) _);generalize (w.drewN q1).drewN q2=w2 at *;obtain⟨v2,k1,k2⟩:=hS2.blk;have hc2:=cells_at k1;have hf2:=bG k1;have HS2:=ah hS2;clear hS2 k1 k2 hc hf;go_wp2_with fail;go_at_call 94;refine (row_note_any HS2 _ rfl).mono ?_;rintro e w3 ⟨j3,q1,q2,q3,q4,rfl,hb3⟩;have HS3:=ah (HS2.kept hb3);have hj3:i<j3:=by
     by_cases e:i=j3
     ·subst e;rcases q4 with q4|q4
      ·omega
      rw[H35.out] at q4;cases q4
     omega
    have HN:=ah (pass_note t i j3 hlt H35 hj3 q2 (λ k k1 k2=>by have:=q3 k k1 k2;simpa using this) (q4.imp id (λ h=>by simpa using h)));have hex:(t.extract i j3).size=j3 - i:=by rw[ByteArray.size_extract];omega
    have hw3:IntKind.i64.wrap ((i:Int)+((t.extract i j3).size:Int))=(j3:Int):=by rw[IntKind.wrap_i64,hex];omega
    obtain⟨v3,m1,m2⟩:=HS3.blk;have hc3:=cells_at m1;have hf3:=bG m1;have HN1:Hid (Sc w0 (w3.setCell ⟨b,3,none⟩ (.int .i64 ((i:Int)+((j3 - i:Nat):Int)))) b t c p j3 L):=by
     have h3:=HS3.at j3 q2 (by omega);rwa [show (j3:Int)=(i:Int)+((j3 - i:Nat):Int) by omega] at h3
    clear m1 m2 q3 q4 hb3 hc2 hf2 hex;go_wp2;go_step3
    refine⟨rfl,⟨_,by omega,HN1,λ l=>HN l,_,_,_,_,_,_,_,_,_,_,_,_,_,_,_,_,_,_,_,_,_,_,_,_,_,_,_,_,_,_,_,_,_,_,_,_,_,_,_,_,_,_,_,rfl⟩⟩
   have e35:((t[i].toNat:Int) == 35)=false:=by simp;omega
   have HBl:Hid (blank false (aD t i)=false):=by show _=_;rw[HBy.out];unfold blank;simp [c32,c10,c35]
   clear c32 c10 c35;go_wp2_with fail;go_quiet (fail)
   generalize nq=q1;go_wp2_with fail;go_quiet (fail)
   generalize nq=q2;have hS2:Sc w0 ((w.drewN q1).drewN q2) b t c p i L:=HS.kept (aP (aP (Below.refl _ _) _) _);generalize (w.drewN q1).drewN q2=w2 at *;obtain⟨v2,k1,k2⟩:=hS2.blk;have hc2:=cells_at k1;have hf2:=bG k1;have HS2:=ah hS2;clear hS2 k1 k2 hc hf;go_wp2;simp only[Exit.jump];go_end0
   exact⟨⟨_,rfl⟩,i,by omega,HS2,(λ l=>rfl),Or.inr HBl⟩
  have e0:((i:Int) == t.size)=true:=by simp;omega
  have HE:Hid (i=t.size):=by show _=_;omega
  go_wp2_with fail;go_quiet (fail)
  generalize nq=q1;have HS2:Hid (Sc w0 (w.drewN q1) b t c p i L):=HS.kept (aP (Below.refl _ _) _);go_wp2;simp only[Exit.jump];refine br (results_none rfl _ _ _) ?_;exact⟨⟨_,rfl⟩,i,by omega,HS2,(λ l=>rfl),Or.inl HE⟩
 rintro a' w' ⟨j,hij,HS,HT,u2,u3,u4,u5,u6,u7,u8,u9,u10,u11,u12,u13,u14,u15,u16,u17,u18,u19,u20,u21,u22,u23,u24,u25,u26,u27,u28,u29,u30,u31,u32,u33,u34,u35,u36,u37,u38,u39,u40,u41,u42,u43,u44,rfl⟩;have hlen:=HS.len;have hle:=HS.le;obtain⟨v,h1,h2⟩:=HS.blk;have hc:=cells_at h1;have hf:=bG h1;have hat:=HS.many;clear h2 h1;by_cases hlt:j<t.size
 ·have hlt':(j:Int)<t.size:=by omega
  have e0:((j:Int) == t.size)=false:=by simp;omega
  have hidx:(0:Int)≤j∧(j:Int)<t.size:=by omega
  have HBy:=ah (byteAt_get t j hlt);have hw1:IntKind.i64.wrap ((j:Int)+1)=((j+1:Nat):Int):=by rw[IntKind.wrap_i64];omega
  by_cases c32:t[j].toNat=32
  ·have e32:((t[j].toNat:Int) == 32)=true:=by simp;omega
   have HN:=ah (pass_blank t j hlt (Or.inl (HBy.trans c32)));clear c32;go_wp2_with fail;go_quiet (fail)
   generalize nq=q1;go_wp2_with fail;go_quiet (fail)
   generalize nq=q2;have hS2:Sc w0 ((w'.drewN q1).drewN q2) b t c p j L:=HS.kept (aP (aP (Below.refl _ _) _) _);generalize (w'.drewN q1).drewN q2=w2 at *;obtain⟨v2,k1,k2⟩:=hS2.blk;have hc2:=cells_at k1;have hf2:=bG k1;have HS2:=ah hS2;clear hS2 k1 k2 hc hf;have HN1:Hid (Sc w0 (w2.setCell ⟨b,3,none⟩ (.int .i64 ((j:Int)+1))) b t c p (j+1) L):=HS2.at (j+1) (by omega) (by omega);go_wp2;go_step3
   refine⟨rfl,⟨_,by omega,HN1,λ l=>(HT l).trans (HN l),_,_,_,_,_,_,_,_,_,_,_,_,_,_,_,_,_,_,_,_,_,_,_,_,_,_,_,_,_,_,_,_,_,_,_,_,_,_,_,_,_,_,_,rfl⟩,by show t.size - X.atOf _ b<t.size - X.atOf _ b;rw[HN1.out.atOf,HS.out.atOf];omega⟩
  have e32:((t[j].toNat:Int) == 32)=false:=by simp;omega
  by_cases c10:t[j].toNat=10
  ·have e10:((t[j].toNat:Int) == 10)=true:=by simp;omega
   have HN:=ah (pass_blank t j hlt (Or.inr (HBy.trans c10)));clear c10 c32;go_wp2_with fail;go_quiet (fail)
   generalize nq=q1;go_wp2_with fail;go_quiet (fail)
   generalize nq=q2;have hS2:Sc w0 ((w'.drewN q1).drewN q2) b t c p j L:=HS.kept (aP (aP (Below.refl _ _) _) _);generalize (w'.drewN q1).drewN q2=w2 at *;obtain⟨v2,k1,k2⟩:=hS2.blk;have hc2:=cells_at k1;have hf2:=bG k1;have HS2:=ah hS2;clear hS2 k1 k2 hc hf;have HN1:Hid (Sc w0 (w2.setCell ⟨b,3,none⟩ (.int .i64 ((j:Int)+1))) b t c p (j+1) L):=HS2.at (j+1) (by omega) (by omega);go_wp2;go_step3
   refine⟨rfl,⟨_,by omega,HN1,λ l=>(HT l).trans (HN l),_,_,_,_,_,_,_,_,_,_,_,_,_,_,_,_,_,_,_,_,_,_,_,_,_,_,_,_,_,_,_,_,_,_,_,_,_,_,_,_,_,_,_,rfl⟩,by show t.size - X.atOf _ b<t.size - X.atOf _ b;rw[HN1.out.atOf,HS.out.atOf];omega⟩
  have e10:((t[j].toNat:Int) == 10)=false:=by simp;omega
  by_cases c35:t[j].toNat=35
  ·have e35:((t[j].toNat:Int) == 35)=true:=by simp;omega
   have H35:=ah (HBy.trans c35);clear c10 c32 c35;go_wp2_with fail;go_quiet (fail)
   generalize nq=q1;go_wp2_with fail;go_quiet (fail)
   generalize nq=q2;have hS2:Sc w0 ((w'.drewN q1).drewN q2) b t c p j L:=HS.kept (aP (aP (Below.refl _ _) _) _);generalize (w'.drewN q1).drewN q2=w2 at *;obtain⟨v2,k1,k2⟩:=hS2.blk;have hc2:=cells_at k1;have hf2:=bG k1;have HS2:=ah hS2;clear hS2 k1 k2 hc hf;go_wp2_with fail;go_at_call 94;refine (row_note_any HS2 _ rfl).mono ?_;rintro e w3 ⟨j3,q1,q2,q3,q4,rfl,hb3⟩;have HS3:=ah (HS2.kept hb3);have hj3:j<j3:=by
    by_cases e:j=j3
    ·subst e;rcases q4 with q4|q4
     ·omega
     rw[H35.out] at q4;cases q4
    omega
   have HN:=ah (pass_note t j j3 hlt H35 hj3 q2 (λ k k1 k2=>by have:=q3 k k1 k2;simpa using this) (q4.imp id (λ h=>by simpa using h)));have hex:(t.extract j j3).size=j3 - j:=by rw[ByteArray.size_extract];omega
   have hw3:IntKind.i64.wrap ((j:Int)+((t.extract j j3).size:Int))=(j3:Int):=by rw[IntKind.wrap_i64,hex];omega
   obtain⟨v3,m1,m2⟩:=HS3.blk;have hc3:=cells_at m1;have hf3:=bG m1;have HN1:Hid (Sc w0 (w3.setCell ⟨b,3,none⟩ (.int .i64 ((j:Int)+((j3 - j:Nat):Int)))) b t c p j3 L):=by
    have h3:=HS3.at j3 q2 (by omega);rwa [show (j3:Int)=(j:Int)+((j3 - j:Nat):Int) by omega] at h3
   clear m1 m2 q3 q4 hb3 hc2 hf2 hex;go_wp2;go_step3
   refine⟨rfl,⟨_,by omega,HN1,λ l=>(HT l).trans (HN l),_,_,_,_,_,_,_,_,_,_,_,_,_,_,_,_,_,_,_,_,_,_,_,_,_,_,_,_,_,_,_,_,_,_,_,_,_,_,_,_,_,_,_,rfl⟩,by show t.size - X.atOf _ b<t.size - X.atOf _ b;rw[HN1.out.atOf,HS.out.atOf];omega⟩
  have e35:((t[j].toNat:Int) == 35)=false:=by simp;omega
  have HBl:Hid (blank false (aD t j)=false):=by show _=_;rw[HBy.out];unfold blank;simp [c32,c10,c35]
  clear c32 c10 c35;go_wp2_with fail;go_quiet (fail)
  generalize nq=q1;go_wp2_with fail;go_quiet (fail)
  generalize nq=q2;have hS2:Sc w0 ((w'.drewN q1).drewN q2) b t c p j L:=HS.kept (aP (aP (Below.refl _ _) _) _);generalize (w'.drewN q1).drewN q2=w2 at *;obtain⟨v2,k1,k2⟩:=hS2.blk;have hc2:=cells_at k1;have hf2:=bG k1;have HS2:=ah hS2;clear hS2 k1 k2 hc hf;go_wp2;simp only[Exit.jump];go_end0
  exact⟨⟨_,rfl⟩,j,by omega,HS2,HT,Or.inr HBl⟩
 have e0:((j:Int) == t.size)=true:=by simp;omega
 have HE:Hid (j=t.size):=by show _=_;omega
 go_wp2_with fail;go_quiet (fail)
 generalize nq=q1;have HS2:Hid (Sc w0 (w'.drewN q1) b t c p j L):=HS.kept (aP (Below.refl _ _) _);go_wp2;simp only[Exit.jump];refine br (results_none rfl _ _ _) ?_;exact⟨⟨_,rfl⟩,j,by omega,HS2,HT,Or.inl HE⟩
end Go.Proofs.YtdnhbedbpbgeeaaGreatDoor.X
