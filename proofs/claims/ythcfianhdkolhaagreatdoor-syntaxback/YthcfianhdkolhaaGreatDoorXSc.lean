/- XScan XAgn XPass XSc -/
import Derived.Test.YthcfianhdkolhaaGreatDoorXNum
import Derived.Deep.AppendLies
import Derived.Test.YthcfianhdkolhaaGreatDoorXTd
import Derived.Carry
import Derived.Laws.Rows
namespace Go.Proofs.YthcfianhdkolhaaGreatDoor.X
open Go.RowKit
set_option linter.unusedVariables false
set_option linter.unusedSimpArgs false
def rowEndN (t:ByteArray):Nat→Nat→Nat
 | 0,to=>to
 | n+1,to=>if insB (byteAt t to) then rowEndN t n (to+1) else to
def rowEnd (t:ByteArray) (i:Nat):Nat:=rowEndN t (t.size - i) i
theorem rowEndN_le (t:ByteArray):∀ n to,to≤rowEndN t n to∧rowEndN t n to≤to+n
 | 0,to=>⟨Nat.le_refl _,Nat.le_refl _⟩
 | n+1,to=>by
  unfold rowEndN
  have:=rowEndN_le t n (to+1)
  split<;>omega
structure Look where
 code:Int
 kind:Int
 text:ByteArray
 next:Nat
def look (t:ByteArray) (i:Nat):Look:=
 if letB (byteAt t i) then ⟨if 16<rowEnd t i - i then 1 else 0,1,t.extract i (rowEnd t i),rowEnd t i⟩
 else if digB (byteAt t i) then ⟨rowCode (t.extract i (rowEnd t i)),if isL (t.extract i (rowEnd t i)) then 3 else 2,rowText (t.extract i (rowEnd t i)),rowEnd t i⟩
 else ⟨if (signOf (t.extract i t.size)).size=0 then 2 else 0,4,signOf (t.extract i t.size),i+(signOf (t.extract i t.size)).size⟩
def blank (note:Bool) (c:Nat):Bool:=note || decide (c=32) || decide (c=10) || decide (c=35)
def note2 (note:Bool) (c:Nat):Bool:=(note || decide (c=35)) && !decide (c=10)
def scanN (t:ByteArray):Nat→Nat→Bool→List Tok→List Tok × Int × Nat
 | 0,_,_,l=>(l,0,0)
 | n+1,i,note,l=>
  if i<t.size then
   if blank note (byteAt t i) then scanN t n (i+1) (note2 note (byteAt t i)) l
   else if (look t i).code=0 then scanN t n (look t i).next note (l++[⟨(look t i).kind,(look t i).text,i⟩]) else ([],(look t i).code,i)
  else (l,0,0)
theorem scanN_succ (t:ByteArray) (n i:Nat) (note:Bool) (l:List Tok):scanN t (n+1) i note l=if i<t.size then if blank note (byteAt t i) then scanN t n (i+1) (note2 note (byteAt t i)) l else if (look t i).code=0 then scanN t n (look t i).next note (l++[⟨(look t i).kind,(look t i).text,i⟩]) else ([],(look t i).code,i) else (l,0,0):=rfl
def scan (t:ByteArray):List Tok × Int × Nat:=if 4000<t.size then ([],1,0) else scanN t t.size 0 false []
theorem let_ins {c:Nat} (h:letB c=true):insB c=true:=by unfold insB;rw [h];rfl
theorem dig_ins {c:Nat} (h:digB c=true):insB c=true:=by unfold insB;rw [h];simp
theorem rowEnd_gt {t:ByteArray} {i:Nat} (hi:i<t.size) (h:insB (byteAt t i)=true):i<rowEnd t i:=by
 unfold rowEnd
 obtain ⟨n,hn⟩:∃ n,t.size - i=n+1:=⟨t.size - i - 1,by omega⟩
 rw [hn]
 unfold rowEndN
 rw [if_pos h]
 have:=(rowEndN_le t n (i+1)).1
 omega
theorem look_next {t:ByteArray} {i:Nat} (hi:i<t.size) (h:(look t i).code=0):i<(look t i).next:=by
 unfold look at *
 split
 ·exact rowEnd_gt hi (let_ins (by assumption))
 ·rename_i h1
  rw [if_neg h1] at h
  split
  ·exact rowEnd_gt hi (dig_ins (by assumption))
  ·rename_i h2
   rw [if_neg h2] at h
   simp only at h ⊢
   split at h
   ·cases h
   ·omega
theorem signFrom_le (s:ByteArray):∀ n j,(signFrom s j n).size≤s.size
 | 0,_=>Nat.zero_le _
 | n+1,j=>by
  unfold signFrom
  split
  ·rename_i h
   unfold pre at h
   simp only [Bool.and_eq_true,decide_eq_true_eq] at h
   exact h.1
  ·exact signFrom_le s n (j+1)
theorem rowEnd_le {t:ByteArray} {i:Nat} (hi:i≤t.size):rowEnd t i≤t.size:=by
 have:=(rowEndN_le t (t.size - i) i).2
 unfold rowEnd
 omega
theorem look_le {t:ByteArray} {i:Nat} (hi:i<t.size):(look t i).next≤t.size:=by
 unfold look
 split
 ·exact rowEnd_le (by omega)
 ·split
  ·exact rowEnd_le (by omega)
  ·have:=signFrom_le (t.extract i t.size) 20 0
   rw [ByteArray.size_extract] at this
   show i+(signOf (t.extract i t.size)).size≤t.size
   unfold signOf
   omega
theorem own_below {w w':World} {ob:Nat} {e:TypeId} {z:Nat} {v:Value} {n:Nat} {xs:List Value} (h:w.ownsRow ob e z v n xs) (hb:Below w.heap.size w w'):w'.ownsRow ob e z v n xs:=by
 refine ⟨h.1,?_⟩
 rcases h.2 with h2|⟨g,cap,cur,hv,hg,hh,r⟩
 ·exact Or.inl h2
 ·exact Or.inr ⟨g,cap,cur,hv,hg,(hb.block g (Array.getElem?_eq_some_iff.1 hh).1).trans hh,r⟩
theorem own_base {w:World} {ob ob':Nat} {e:TypeId} {z:Nat} {v:Value} {n:Nat} {xs:List Value} (h:w.ownsRow ob e z v n xs) (hb:ob'≤ob):w.ownsRow ob' e z v n xs:=by
 refine ⟨h.1,?_⟩
 rcases h.2 with h2|⟨g,cap,cur,hv,hg,r⟩
 ·exact Or.inl h2
 ·exact Or.inr ⟨g,cap,cur,hv,Nat.le_trans hb hg,r⟩
theorem info_parts {P:Program} {e:TypeId} {z:Value} {n m:Nat} (h:(P.info? e).map (fun i=>(i.zero,i.size,i.bytes))=some (some z,n,m)):∃ i,P.info? e=some i∧i.zero=some z∧i.size=n∧i.bytes=m:=by
 cases hi:P.info? e with
 | none=>rw [hi] at h;cases h
 | some i=>
  rw [hi] at h
  simp at h
  exact ⟨i,rfl,h.1,h.2.1,h.2.2⟩
theorem info44:(Tryz.prog.info? 44).map (fun i=>(i.zero,i.size,i.bytes))=some (some (.agg #[.int .i64 0,.string ⟨#[]⟩,.int .i64 0]),3,32):=by kernel_rfl
end Go.Proofs.YthcfianhdkolhaaGreatDoor.X
namespace Go.Proofs.YthcfianhdkolhaaGreatDoor.X
open Go.RowKit
set_option linter.unusedVariables false
set_option linter.unusedSimpArgs false
theorem ba_ext {a b:ByteArray} (hs:a.size=b.size) (h:∀ j,j<a.size→byteAt a j=byteAt b j):a=b:=by
 apply ByteArray.ext
 apply Array.ext hs
 intro i h1 h2
 have:=h i h1
 rw [byteAt_get a i h1,byteAt_get b i h2] at this
 exact UInt8.toNat_inj.1 this
theorem byteAt_extract (t:ByteArray) (i e j:Nat) (he:e≤t.size) (hj:j<e - i):byteAt (t.extract i e) j=byteAt t (i+j):=by
 have h1:j<(t.extract i e).size:=by rw [ByteArray.size_extract];omega
 have h2:i+j<t.size:=by omega
 rw [byteAt_get _ _ h1,byteAt_get _ _ h2]
 rw [ByteArray.getElem_extract]
theorem rowEndN_of (t:ByteArray):∀ n to m,m<n→(∀ j,j<m→insB (byteAt t (to+j))=true)→insB (byteAt t (to+m))=false→rowEndN t n to=to+m
 | 0,to,m,h,_,_=>by omega
 | n+1,to,m,h,h1,h2=>by
  unfold rowEndN
  cases m with
  | zero=>rw [show to+0=to from rfl] at h2;rw [h2];rfl
  | succ m=>
   rw [if_pos (by have:=h1 0 (by omega);simpa using this),rowEndN_of t n (to+1) m (by omega) (fun j hj=>by have:=h1 (j+1) (by omega);rwa [show to+1+j=to+(j+1) by omega]) (by rwa [show to+1+m=to+(m+1) by omega])]
   omega
theorem rowEndN_ins (t:ByteArray):∀ n to j,to+j<rowEndN t n to→insB (byteAt t (to+j))=true
 | 0,to,j,h=>by unfold rowEndN at h;omega
 | n+1,to,j,h=>by
  unfold rowEndN at h
  split at h
  ·rename_i hi
   cases j with
   | zero=>exact hi
   | succ j=>
    have:=rowEndN_ins t n (to+1) j (by omega)
    rwa [show to+1+j=to+(j+1) by omega] at this
  ·omega
structure Has (S:ByteArray) (pos:Nat) (x:ByteArray):Prop where
 le:pos+x.size≤S.size
 at':∀ j,j<x.size→byteAt S (pos+j)=byteAt x j
 sp:pos+x.size<S.size→byteAt S (pos+x.size)=32
theorem rowEndN_all (t:ByteArray):∀ n to,(∀ j,j<n→insB (byteAt t (to+j))=true)→rowEndN t n to=to+n
 | 0,to,_=>rfl
 | n+1,to,h=>by
  unfold rowEndN
  rw [if_pos (by have:=h 0 (by omega);simpa using this),rowEndN_all t n (to+1) (fun j hj=>by have:=h (j+1) (by omega);rwa [show to+1+j=to+(j+1) by omega])]
  omega
def Good (x:ByteArray) (kind:Int) (text:ByteArray):Prop:=∀ S pos,Has S pos x→look S pos=⟨0,kind,text,pos+x.size⟩∧blank false (byteAt S pos)=false
def raw (kind:Int) (text:ByteArray):ByteArray:=if kind=3 then text++⟨#[76]⟩ else text
theorem Has.extract {S:ByteArray} {pos:Nat} {x:ByteArray} (h:Has S pos x):S.extract pos (pos+x.size)=x:=by
 have hl:=h.le
 apply ba_ext
 ·rw [ByteArray.size_extract];omega
 ·intro j hj
  rw [ByteArray.size_extract] at hj
  rw [byteAt_extract _ _ _ _ (by omega) (by omega),h.at' j (by omega)]
theorem Has.rowEnd {S:ByteArray} {pos:Nat} {x:ByteArray} (h:Has S pos x) (hi:∀ j,j<x.size→insB (byteAt x j)=true):X.rowEnd S pos=pos+x.size:=by
 have hl:=h.le
 unfold X.rowEnd
 by_cases hlt:pos+x.size<S.size
 ·exact rowEndN_of S _ _ _ (by omega) (fun j hj=>by rw [h.at' j hj];exact hi j hj) (by rw [h.sp hlt];rfl)
 ·rw [rowEndN_all S _ _ (fun j hj=>by rw [h.at' j (by omega)];exact hi j (by omega))]
  omega
theorem row_facts {t:ByteArray} {i:Nat} (hi:i<t.size) (h:insB (byteAt t i)=true):(t.extract i (rowEnd t i)).size=rowEnd t i - i∧1≤(t.extract i (rowEnd t i)).size∧byteAt (t.extract i (rowEnd t i)) 0=byteAt t i∧∀ j,j<(t.extract i (rowEnd t i)).size→insB (byteAt (t.extract i (rowEnd t i)) j)=true:=by
 have h1:=rowEnd_gt hi h
 have h2:=rowEnd_le (Nat.le_of_lt hi)
 have hs:(t.extract i (rowEnd t i)).size=rowEnd t i - i:=by rw [ByteArray.size_extract];omega
 refine ⟨hs,by omega,by rw [byteAt_extract _ _ _ _ h2 (by omega)];rfl,fun j hj=>?_⟩
 rw [byteAt_extract _ _ _ _ h2 (by omega)]
 exact rowEndN_ins t _ i j (by rw [show rowEndN t (t.size - i) i=rowEnd t i from rfl];omega)
theorem raw_row (x:ByteArray) (h1:1≤x.size):raw (if isL x=true then 3 else 2) (rowText x)=x:=by
 unfold raw rowText
 cases hL:isL x with
 | false=>simp
 | true=>
  rw [if_pos rfl,if_pos rfl,if_pos rfl]
  apply ba_ext
  ·rw [ByteArray.size_append,ByteArray.size_extract]
   show min (x.size - 1) x.size - 0+1=_
   omega
  ·intro j hj
   rw [ByteArray.size_append,ByteArray.size_extract] at hj
   have hj':j<x.size:=by have:(⟨#[76]⟩:ByteArray).size=1:=rfl;omega
   unfold isL at hL
   simp only [decide_eq_true_eq] at hL
   by_cases e:j=x.size - 1
   ·rw [e,hL]
    unfold byteAt
    rw [ByteArray.data_append,Array.getElem?_append_right (by show (x.extract 0 (x.size - 1)).size≤_;rw [ByteArray.size_extract];omega)]
    have e2:x.size - 1 - (x.extract 0 (x.size - 1)).data.size=0:=by show x.size - 1 - (x.extract 0 (x.size - 1)).size=0;rw [ByteArray.size_extract];omega
    rw [e2]
    rfl
   ·have e3:byteAt (x.extract 0 (x.size - 1)++⟨#[76]⟩) j=byteAt (x.extract 0 (x.size - 1)) j:=by
     unfold byteAt
     rw [ByteArray.data_append,Array.getElem?_append_left (by show j<(x.extract 0 (x.size - 1)).size;rw [ByteArray.size_extract];omega)]
    rw [e3,byteAt_extract _ _ _ _ (by omega) (by omega),Nat.zero_add]
theorem sign_at (s:ByteArray):∀ n j,signFrom s j n=⟨#[]⟩∨∃ m,j≤m∧m<j+n∧signFrom s j n=sigN m∧pre s m=true∧∀ i,j≤i→i<m→pre s i=false
 | 0,j=>Or.inl rfl
 | n+1,j=>by
  unfold signFrom
  cases hp:pre s j with
  | true=>exact Or.inr ⟨j,Nat.le_refl _,by omega,rfl,hp,fun i h1 h2=>by omega⟩
  | false=>
   rcases sign_at s n (j+1) with h|⟨m,h1,h2,h3,h4,h5⟩
   ·exact Or.inl h
   ·refine Or.inr ⟨m,by omega,by omega,h3,h4,fun i h6 h7=>?_⟩
    by_cases e:i=j
    ·subst e;exact hp
    ·exact h5 i (by omega) h7
theorem sig_ok:∀ m,m<20→1≤(sigN m).size∧∀ j,j<(sigN m).size→byteAt (sigN m) j≠32:=by
 intro m hm
 have:m=0∨m=1∨m=2∨m=3∨m=4∨m=5∨m=6∨m=7∨m=8∨m=9∨m=10∨m=11∨m=12∨m=13∨m=14∨m=15∨m=16∨m=17∨m=18∨m=19:=by omega
 have key:∀ x:ByteArray,(decide (1≤x.size) && (List.range x.size).all fun j=>decide (byteAt x j≠32))=true→1≤x.size∧∀ j,j<x.size→byteAt x j≠32:=fun x h=>by
  simp only [Bool.and_eq_true,decide_eq_true_eq,List.all_eq_true,List.mem_range] at h
  exact h
 rcases this with rfl|rfl|rfl|rfl|rfl|rfl|rfl|rfl|rfl|rfl|rfl|rfl|rfl|rfl|rfl|rfl|rfl|rfl|rfl|rfl<;>exact key _ (by decide)
theorem pre_iff (s:ByteArray) (j:Nat):pre s j=true ↔ (sigN j).size≤s.size∧∀ i,i<(sigN j).size→byteAt s i=byteAt (sigN j) i:=by
 unfold pre
 simp only [Bool.and_eq_true,decide_eq_true_eq,beq_iff_eq]
 constructor
 ·rintro ⟨h1,h2⟩
  refine ⟨h1,fun i hi=>?_⟩
  have e:s.extract 0 (sigN j).size=sigN j:=ByteArray.ext (Array.toList_inj.1 (by rw [← ByteArray.toList_eq,← ByteArray.toList_eq];exact h2))
  rw [← e,byteAt_extract _ _ _ _ h1 (by omega),Nat.zero_add]
 ·rintro ⟨h1,h2⟩
  refine ⟨h1,?_⟩
  rw [ba_ext (a:=s.extract 0 (sigN j).size) (b:=sigN j) (by rw [ByteArray.size_extract];omega) (fun i hi=>by
   rw [ByteArray.size_extract] at hi
   rw [byteAt_extract _ _ _ _ h1 (by omega),Nat.zero_add,h2 i (by omega)])]
theorem good_sign {u:ByteArray} {m:Nat} (hm:m<20) (h1:pre u m=true) (h2:∀ i,i<m→pre u i=false) (hb:blank false (byteAt u 0)=false) (hl:letB (byteAt u 0)=false) (hd:digB (byteAt u 0)=false):Good (sigN m) 4 (sigN m):=by
 intro S pos hS
 have ok:=sig_ok m hm
 have p1:=(pre_iff u m).1 h1
 have b0:byteAt S pos=byteAt u 0:=by
  have:=hS.at' 0 (by omega)
  rw [Nat.add_zero] at this
  rw [this,p1.2 0 (by omega)]
 have hsz:(S.extract pos S.size).size=S.size - pos:=by rw [ByteArray.size_extract];omega
 have hlt:=hS.le
 have hex:∀ j,j<S.size - pos→byteAt (S.extract pos S.size) j=byteAt S (pos+j):=fun j hj=>byteAt_extract _ _ _ _ (Nat.le_refl _) hj
 have hsg:signOf (S.extract pos S.size)=sigN m:=by
  refine signFrom_at _ 20 0 m (by omega) (by omega) (fun i _ hi=>?_) ?_
  ·rw [Bool.eq_false_iff]
   intro hp
   have q:=(pre_iff _ _).1 hp
   have okI:=sig_ok i (by omega)
   by_cases e:(sigN i).size≤(sigN m).size
   ·have:pre u i=true:=(pre_iff u i).2 ⟨by omega,fun j hj=>by
     rw [← q.2 j hj,hex j (by rw [hsz] at q;omega),hS.at' j (by omega),p1.2 j (by omega)]⟩
    rw [h2 i hi] at this
    cases this
   ·refine okI.2 (sigN m).size (by omega) ?_
    have q1:=q.1
    rw [hsz] at q1
    rw [← q.2 _ (by omega),hex _ (by omega)]
    exact hS.sp (by omega)
  ·refine (pre_iff _ _).2 ⟨by omega,fun j hj=>?_⟩
   rw [hex j (by omega),hS.at' j hj]
 constructor
 ·unfold look
  rw [b0,hl,hd,hsg]
  simp only [Bool.false_eq_true,if_false]
  rw [if_neg (by omega)]
 ·rw [b0];exact hb
theorem good_look {t:ByteArray} {i:Nat} (hi:i<t.size) (hb:blank false (byteAt t i)=false) (h:(look t i).code=0):
  Good (raw (look t i).kind (look t i).text) (look t i).kind (look t i).text∧i+(raw (look t i).kind (look t i).text).size=(look t i).next:=by
 by_cases h1:letB (byteAt t i)=true
 ·obtain ⟨f1,f2,f3,f4⟩:=row_facts hi (let_ins h1)
  have e:look t i=⟨if 16<rowEnd t i - i then 1 else 0,1,t.extract i (rowEnd t i),rowEnd t i⟩:=by unfold look;rw [if_pos h1]
  rw [e] at h ⊢
  simp only at h ⊢
  have hr:raw 1 (t.extract i (rowEnd t i))=t.extract i (rowEnd t i):=by unfold raw;rw [if_neg (by decide)]
  have h16:¬ 16<rowEnd t i - i:=by
   intro e2
   rw [if_pos e2] at h
   cases h
  rw [hr]
  refine ⟨fun S pos hS=>?_,by have:=rowEnd_gt hi (let_ins h1);omega⟩
  have b0:byteAt S pos=byteAt t i:=by
   have:=hS.at' 0 (by omega)
   rw [Nat.add_zero] at this
   rw [this,f3]
  refine ⟨?_,by rw [b0];exact hb⟩
  unfold look
  rw [b0,if_pos h1,hS.rowEnd f4,hS.extract,if_neg (by omega)]
 ·by_cases h2:digB (byteAt t i)=true
  ·obtain ⟨f1,f2,f3,f4⟩:=row_facts hi (dig_ins h2)
   have e:look t i=⟨rowCode (t.extract i (rowEnd t i)),if isL (t.extract i (rowEnd t i)) then 3 else 2,rowText (t.extract i (rowEnd t i)),rowEnd t i⟩:=by unfold look;rw [if_neg h1,if_pos h2]
   rw [e] at h ⊢
   simp only at h ⊢
   rw [raw_row _ f2]
   refine ⟨fun S pos hS=>?_,by have:=rowEnd_gt hi (dig_ins h2);omega⟩
   have b0:byteAt S pos=byteAt t i:=by
    have:=hS.at' 0 (by omega)
    rw [Nat.add_zero] at this
    rw [this,f3]
   refine ⟨?_,by rw [b0];exact hb⟩
   unfold look
   rw [b0,if_neg h1,if_pos h2,hS.rowEnd f4,hS.extract,h]
  ·have e:look t i=⟨if (signOf (t.extract i t.size)).size=0 then 2 else 0,4,signOf (t.extract i t.size),i+(signOf (t.extract i t.size)).size⟩:=by unfold look;rw [if_neg h1,if_neg h2]
   rw [e] at h ⊢
   simp only at h ⊢
   have hr:∀ x,raw 4 x=x:=fun x=>by unfold raw;rw [if_neg (by decide)]
   rw [hr]
   refine ⟨?_,rfl⟩
   have b0:byteAt (t.extract i t.size) 0=byteAt t i:=byteAt_extract _ _ _ _ (Nat.le_refl _) (by omega)
   rcases sign_at (t.extract i t.size) 20 0 with h3|⟨m,_,h4,h5,h6,h7⟩
   ·rw [show signOf (t.extract i t.size)=⟨#[]⟩ from h3] at h
    rw [if_pos (show (⟨#[]⟩:ByteArray).size=0 from rfl)] at h
    cases h
   ·rw [show signOf (t.extract i t.size)=sigN m from h5]
    exact good_sign (by omega) h6 (fun i hi=>h7 i (Nat.zero_le _) hi) (by rw [b0];exact hb) (by rw [b0];simpa using h1) (by rw [b0];simpa using h2)
def Fine (l:List Tok):Prop:=∀ k∈l,Good (raw k.kind k.text) k.kind k.text∧1≤(raw k.kind k.text).size
def rawLen (l:List Tok):Nat:=(l.map fun k=>(raw k.kind k.text).size).sum
theorem rawLen_app (l:List Tok) (k:Tok):rawLen (l++[k])=rawLen l+(raw k.kind k.text).size:=by simp [rawLen]
theorem fine_len {l:List Tok} (h:Fine l):l.length≤rawLen l:=by
 induction l with
 | nil=>simp
 | cons k r ih=>
  have h1:=(h k (by simp)).2
  have h2:=ih (fun x hx=>h x (by simp [hx]))
  simp only [rawLen,List.map_cons,List.sum_cons,List.length_cons] at *
  omega
theorem scanN_fine (t:ByteArray):∀ n i note l,i≤t.size→Fine l→rawLen l≤i→(scanN t n i note l).2.1=0→Fine (scanN t n i note l).1∧rawLen (scanN t n i note l).1≤t.size
 | 0,i,note,l,hi,hl,hr,_=>⟨hl,Nat.le_trans hr hi⟩
 | n+1,i,note,l,hi,hl,hr,hc=>by
  rw [scanN_succ] at hc ⊢
  by_cases h1:i<t.size
  ·rw [if_pos h1] at hc ⊢
   by_cases h2:blank note (byteAt t i)=true
   ·rw [if_pos h2] at hc ⊢
    exact scanN_fine t n _ _ l (by omega) hl (by omega) hc
   ·rw [if_neg h2] at hc ⊢
    by_cases h3:(look t i).code=0
    ·rw [if_pos h3] at hc ⊢
     have hnote:note=false:=by
      cases note
      ·rfl
      ·exact absurd (by unfold blank;rfl) h2
     subst hnote
     have hg:=good_look h1 (by simpa using h2) h3
     have hn:=look_next h1 h3
     have hle:=look_le h1
     refine scanN_fine t n _ _ _ hle ?_ ?_ hc
     ·intro k hk
      rcases List.mem_append.1 hk with hk|hk
      ·exact hl k hk
      ·simp at hk
       subst hk
       exact ⟨hg.1,by have:=hg.2;simp only;omega⟩
     ·rw [rawLen_app]
      have:=hg.2
      simp only
      omega
    ·rw [if_neg h3] at hc
     exact absurd hc h3
  ·rw [if_neg h1]
   exact ⟨hl,Nat.le_trans hr hi⟩
theorem scan_fine (t:ByteArray) (hc:(scan t).2.1=0):Fine (scan t).1∧rawLen (scan t).1≤t.size:=by
 unfold scan at hc ⊢
 by_cases h:4000<t.size
 ·rw [if_pos h] at hc
  cases hc
 ·rw [if_neg h] at hc ⊢
  exact scanN_fine t _ 0 false [] (Nat.zero_le _) (fun _ h=>by simp at h) (by simp [rawLen]) hc
def str (l:List UInt8):ByteArray:=⟨l.toArray⟩
theorem byteAt_str (l:List UInt8) (i:Nat):byteAt (str l) i=match l[i]? with|some c=>c.toNat|none=>0:=by
 unfold byteAt str
 rw [List.getElem?_toArray]
 cases l[i]?<;>rfl
theorem z_byteAt_list (x:ByteArray) (i:Nat):byteAt x i=match x.data.toList[i]? with|some c=>c.toNat|none=>0:=by
 unfold byteAt
 rw [Array.getElem?_toList]
 cases x.data[i]?<;>rfl
def Like (l m:List Tok):Prop:=l.map (fun k=>(k.kind,k.text))=m.map (fun k=>(k.kind,k.text))
theorem scan_bad {t:ByteArray} (hc:(scan t).2.1≠0):(scan t).1=[]:=by
 have key:∀ n i note l,(scanN t n i note l).2.1≠0→(scanN t n i note l).1=[]:=by
  intro n
  induction n with
  | zero=>intro i note l h;exact absurd rfl h
  | succ n ih=>
   intro i note l h
   rw [scanN_succ] at h ⊢
   split
   ·rename_i h1
    rw [if_pos h1] at h
    split
    ·rename_i h2
     rw [if_pos h2] at h
     exact ih _ _ _ h
    ·rename_i h2
     rw [if_neg h2] at h
     split
     ·rename_i h3
      rw [if_pos h3] at h
      exact ih _ _ _ h
     ·rfl
   ·rename_i h1
    rw [if_neg h1] at h
    exact absurd rfl h
 unfold scan at hc ⊢
 split
 ·rfl
 ·rename_i h
  rw [if_neg h] at hc
  exact key _ _ _ _ hc
def spB:List Tok→List UInt8
 | []=>[]
 | [k]=>(raw k.kind k.text).data.toList
 | k::l::r=>(raw k.kind k.text).data.toList++(32::spB (l::r))
theorem spB_cons (k:Tok) (r:List Tok):∃ u,spB (k::r)=(raw k.kind k.text).data.toList++u∧(u=[]∧r=[]∨u=32::spB r∧r≠[]):=by
 cases r with
 | nil=>exact ⟨[],by simp [spB],Or.inl ⟨rfl,rfl⟩⟩
 | cons l r=>exact ⟨_,rfl,Or.inr ⟨rfl,by simp⟩⟩
theorem spB_len {r:List Tok}:(spB r).length≤rawLen r+r.length:=by
 induction r with
 | nil=>simp [spB]
 | cons k r ih=>
  obtain ⟨u,e,h⟩:=spB_cons k r
  have hx:(raw k.kind k.text).data.toList.length=(raw k.kind k.text).size:=by rw [Array.length_toList];rfl
  have hr:rawLen (k::r)=(raw k.kind k.text).size+rawLen r:=by simp [rawLen]
  rw [e,List.length_append,hx,hr,List.length_cons]
  rcases h with ⟨h,_⟩|⟨h,_⟩
  ·rw [h];simp
   omega
  ·rw [h,List.length_cons]
   omega
theorem has_spB (p:List UInt8) (k:Tok) (r:List Tok):Has (str (p++spB (k::r))) p.length (raw k.kind k.text):=by
 obtain ⟨u,e,h⟩:=spB_cons k r
 have hx:(raw k.kind k.text).data.toList.length=(raw k.kind k.text).size:=by rw [Array.length_toList];rfl
 have hs:(str (p++spB (k::r))).size=p.length+((raw k.kind k.text).size+u.length):=by
  show (p++spB (k::r)).length=_
  rw [e,List.length_append,List.length_append,hx]
 refine ⟨by omega,fun j hj=>?_,fun hlt=>?_⟩
 ·rw [byteAt_str,z_byteAt_list,e,List.getElem?_append_right (by omega),show p.length+j - p.length=j by omega,List.getElem?_append_left (by omega)]
 ·rcases h with ⟨h,_⟩|⟨h,_⟩
  ·rw [hs,h] at hlt
   simp at hlt
  ·rw [byteAt_str,e,List.getElem?_append_right (by omega),show p.length+(raw k.kind k.text).size - p.length=(raw k.kind k.text).size by omega,List.getElem?_append_right (by omega),hx,Nat.sub_self,h]
   rfl
theorem scan_spB:∀ (r:List Tok) (p:List UInt8) (acc:List Tok) (n:Nat),Fine r→(spB r).length≤n→∃ m,scanN (str (p++spB r)) n p.length false acc=(acc++m,0,0)∧Like m r
 | [],p,acc,n,_,_=>by
  refine ⟨[],?_,rfl⟩
  rw [List.append_nil]
  cases n with
  | zero=>rfl
  | succ n=>
   rw [scanN_succ,if_neg]
   show ¬ p.length<(p++spB []).length
   simp [spB]
 | k::r,p,acc,n,hf,hn=>by
  have hh:=has_spB p k r
  have hg:=hf k (by simp)
  have hgl:=hg.1 _ _ hh
  have h1:=hg.2
  obtain ⟨u,e,h⟩:=spB_cons k r
  have hx:(raw k.kind k.text).data.toList.length=(raw k.kind k.text).size:=by rw [Array.length_toList];rfl
  have hlen:(spB (k::r)).length=(raw k.kind k.text).size+u.length:=by rw [e,List.length_append,hx]
  obtain ⟨n,rfl⟩:∃ n',n=n'+1:=⟨n - 1,by omega⟩
  have hpos:p.length<(str (p++spB (k::r))).size:=by have:=hh.le;omega
  have step1:scanN (str (p++spB (k::r))) (n+1) p.length false acc=scanN (str (p++spB (k::r))) n (p.length+(raw k.kind k.text).size) false (acc++[⟨k.kind,k.text,p.length⟩]):=by
   rw [scanN_succ,if_pos hpos,hgl.2,if_neg (by decide),hgl.1,if_pos rfl]
  rcases h with ⟨hu,hr⟩|⟨hu,hr⟩
  ·subst hr
   refine ⟨[⟨k.kind,k.text,p.length⟩],?_,rfl⟩
   rw [step1]
   have hend:¬ p.length+(raw k.kind k.text).size<(str (p++spB [k])).size:=by
    show ¬ _<(p++spB [k]).length
    rw [List.length_append,hlen,hu]
    simp
   cases n with
   | zero=>rfl
   | succ n=>rw [scanN_succ,if_neg hend]
  ·rw [hu,List.length_cons] at hlen
   obtain ⟨n,rfl⟩:∃ n',n=n'+1:=⟨n - 1,by omega⟩
   have hlt:p.length+(raw k.kind k.text).size<(str (p++spB (k::r))).size:=by
    show _<(p++spB (k::r)).length
    rw [List.length_append,hlen]
    omega
   have hS:p++spB (k::r)=(p++((raw k.kind k.text).data.toList++[32]))++spB r:=by rw [e,hu];simp
   obtain ⟨m,hm,hl⟩:=scan_spB r (p++((raw k.kind k.text).data.toList++[32])) (acc++[⟨k.kind,k.text,p.length⟩]) n (fun x hx=>hf x (by simp [hx])) (by omega)
   have hpl:(p++((raw k.kind k.text).data.toList++[32])).length=p.length+(raw k.kind k.text).size+1:=by
    simp only [List.length_append,hx,List.length_cons,List.length_nil]
    omega
   refine ⟨⟨k.kind,k.text,p.length⟩::m,?_,?_⟩
   ·rw [step1,scanN_succ,if_pos hlt,hh.sp hlt,if_pos (by decide),show note2 false 32=false from rfl,← hpl,hS,hm]
    simp
   ·unfold Like at hl ⊢
    simp only [List.map_cons,hl]
theorem scan_shown {r:List Tok} (hf:Fine r) (hl:(spB r).length≤4000):(scan (str (spB r))).2.1=0∧Like (scan (str (spB r))).1 r:=by
 obtain ⟨m,hm,hk⟩:=scan_spB r [] [] (str (spB r)).size hf (Nat.le_refl _)
 have e:scan (str (spB r))=(m,0,0):=by
  unfold scan
  rw [if_neg (by show ¬ 4000<(spB r).length;omega)]
  exact hm
 rw [e]
 exact ⟨rfl,hk⟩
end Go.Proofs.YthcfianhdkolhaaGreatDoor.X
namespace Go.Proofs.YthcfianhdkolhaaGreatDoor.X
open Go.RowKit
set_option linter.unusedVariables false
set_option linter.unusedSimpArgs false
theorem scanN_fuel (t:ByteArray):∀ n m i note l,t.size - i≤n→t.size - i≤m→scanN t n i note l=scanN t m i note l
 | 0,0,_,_,_,_,_=>rfl
 | 0,m+1,i,note,l,h,_=>by
  rw [scanN_succ,if_neg (by omega)]
  rfl
 | n+1,0,i,note,l,_,h=>by
  rw [scanN_succ,if_neg (by omega)]
  rfl
 | n+1,m+1,i,note,l,h1,h2=>by
  rw [scanN_succ,scanN_succ]
  by_cases hi:i<t.size
  ·rw [if_pos hi,if_pos hi]
   rw [scanN_fuel t n m (i+1) _ l (by omega) (by omega)]
   by_cases hc:(look t i).code=0
   ·have:=look_next hi hc
    rw [scanN_fuel t n m (look t i).next note _ (by omega) (by omega)]
   ·rw [if_neg hc,if_neg hc]
  ·rw [if_neg hi,if_neg hi]
def scanAt (t:ByteArray) (i:Nat) (note:Bool) (l:List Tok):List Tok × Int × Nat:=scanN t (t.size - i) i note l
theorem scanAt_end (t:ByteArray) (i:Nat) (note:Bool) (l:List Tok) (h:t.size≤i):scanAt t i note l=(l,0,0):=by
 unfold scanAt
 rw [show t.size - i=0 by omega]
 rfl
theorem scanAt_step (t:ByteArray) (i:Nat) (note:Bool) (l:List Tok) (h:i<t.size):scanAt t i note l=if blank note (byteAt t i) then scanAt t (i+1) (note2 note (byteAt t i)) l else if (look t i).code=0 then scanAt t (look t i).next note (l++[⟨(look t i).kind,(look t i).text,i⟩]) else ([],(look t i).code,i):=by
 unfold scanAt
 obtain ⟨n,hn⟩:∃ n,t.size - i=n+1:=⟨t.size - i - 1,by omega⟩
 rw [hn,scanN_succ,if_pos h]
 rw [scanN_fuel t n (t.size - (i+1)) (i+1) _ l (by omega) (by omega)]
 by_cases hc:(look t i).code=0
 ·have:=look_next h hc
  rw [scanN_fuel t n (t.size - (look t i).next) (look t i).next note _ (by omega) (by omega)]
 ·rw [if_neg hc,if_neg hc]
theorem scan_at (t:ByteArray) (h:t.size≤4000):scan t=scanAt t 0 false []:=by
 unfold scan scanAt
 rw [if_neg (by omega)]
 rfl
theorem pass_blank (t:ByteArray) (i:Nat) (h:i<t.size) (hb:byteAt t i=32∨byteAt t i=10) (l:List Tok):scanAt t i false l=scanAt t (i+1) false l:=by
 rw [scanAt_step t i false l h]
 rcases hb with e|e<;>(rw [e];rfl)
theorem note_run (t:ByteArray) (e:Nat) (he:e≤t.size):∀ d k,k+d=e→(∀ j,k≤j→j<e→byteAt t j≠10)→∀ l,scanAt t k true l=scanAt t e true l
 | 0,k,h,_,l=>by rw [show k=e by omega]
 | d+1,k,h,hk,l=>by
  rw [scanAt_step t k true l (by omega)]
  have h10:=hk k (Nat.le_refl _) (by omega)
  rw [show blank true (byteAt t k)=true from rfl,show note2 true (byteAt t k)=true by unfold note2;simp [h10],if_pos rfl]
  exact note_run t e he d (k+1) (by omega) (fun j h1 h2=>hk j (by omega) h2) l
theorem pass_note (t:ByteArray) (i e:Nat) (h:i<t.size) (hb:byteAt t i=35) (hie:i<e) (he:e≤t.size) (hk:∀ j,i≤j→j<e→byteAt t j≠10) (hl:e=t.size∨byteAt t e=10) (l:List Tok):scanAt t i false l=scanAt t e false l:=by
 rw [scanAt_step t i false l h,hb,show blank false 35=true from rfl,if_pos rfl,show note2 false 35=true from rfl]
 rw [note_run t e he (e - (i+1)) (i+1) (by omega) (fun j h1 h2=>hk j (by omega) h2) l]
 rcases hl with hl|hl
 ·rw [scanAt_end _ _ _ _ (by omega),scanAt_end _ _ _ _ (by omega)]
 ·by_cases hlt:e<t.size
  ·rw [scanAt_step t e true l hlt,scanAt_step t e false l hlt,hl]
   rfl
  ·rw [scanAt_end _ _ _ _ (by omega),scanAt_end _ _ _ _ (by omega)]
theorem take_tok (t:ByteArray) (i:Nat) (h:i<t.size) (hb:blank false (byteAt t i)=false) (l:List Tok):scanAt t i false l=if (look t i).code=0 then scanAt t (look t i).next false (l++[⟨(look t i).kind,(look t i).text,i⟩]) else ([],(look t i).code,i):=by
 rw [scanAt_step t i false l h,hb]
 rfl
theorem rowEnd_eq {t:ByteArray} {i e:Nat} (hi:i≤e) (he:e≤t.size) (hk:∀ j,i≤j→j<e→insB (byteAt t j)=true) (hl:e=t.size∨insB (byteAt t e)=false):rowEnd t i=e:=by
 have key:∀ n k,k≤e→i≤k→t.size=k+n→rowEndN t n k=e:=by
  intro n
  induction n with
  | zero=>intro k h1 h2 h3;show k=e;omega
  | succ n ih=>
   intro k h1 h2 h3
   unfold rowEndN
   by_cases q:k<e
   ·rw [if_pos (hk k h2 q)]
    exact ih (k+1) (by omega) (by omega) (by omega)
   ·obtain rfl:k=e:=by omega
    rcases hl with hl|hl
    ·omega
    ·rw [hl];rfl
 unfold rowEnd
 exact key _ i hi (Nat.le_refl _) (by omega)
end Go.Proofs.YthcfianhdkolhaaGreatDoor.X
namespace Go.Proofs.YthcfianhdkolhaaGreatDoor.X
open Go.RowKit
set_option maxRecDepth 100000
set_option maxHeartbeats 2000000
set_option linter.unusedVariables false
set_option linter.unusedSimpArgs false
theorem cells_at {W:World} {b:Nat} {cur:Array Value} {t:TypeId} (h:W.heap[b]?=some (.cells cur t (0,0))):∀ o,W.cell? ⟨b,o,none⟩=cur[o]?:=fun o=>by simp [World.cell?,h]
theorem frozen_at {W:World} {b:Nat} {cur:Array Value} {t:TypeId} (h:W.heap[b]?=some (.cells cur t (0,0))):∀ o,W.frozen? ⟨b,o,none⟩=false:=fun o=>by simp only [World.frozen?,h];rfl
structure Sc (w0 w:World) (b:Nat) (t:ByteArray) (c p:Int) (i:Nat) (L:List Tok):Prop where
 len:t.size≤4000
 le:i≤t.size
 many:L.length≤i
 base:w0.heap.size≤b
 blk:∃ v,w.heap[b]?=some (.cells #[.int .i64 c,.int .i64 p,.string t,.int .i64 i,v] 46 (0,0))∧w.ownsRow w0.heap.size 44 3 v L.length (toks L)
 below:Below w0.heap.size w0 w
variable {w0 w : World} {b : Nat} {t : ByteArray} {c p : Int} {i : Nat} {L : List Tok}
theorem Sc.lt (h:Sc w0 w b t c p i L):b<w.heap.size:=by
 obtain ⟨v,h1,_⟩:=h.blk
 exact (Array.getElem?_eq_some_iff.1 h1).1
theorem Sc.kept (h:Sc w0 w b t c p i L) {w':World} (hb:Below w.heap.size w w'):Sc w0 w' b t c p i L:=by
 obtain ⟨v,h1,h2⟩:=h.blk
 exact ⟨h.len,h.le,h.many,h.base,⟨v,(hb.block b h.lt).trans h1,own_below h2 hb⟩,h.below.trans (hb.mono h.below.size)⟩
theorem own_set {w:World} {ob:Nat} {v:Value} {n:Nat} {xs:List Value} {b o:Nat} {x:Value} {cur:Array Value} (h:w.ownsRow ob 44 3 v n xs) (hb:w.heap[b]?=some (.cells cur 46 (0,0))):(w.setCell ⟨b,o,none⟩ x).ownsRow ob 44 3 v n xs:=by
 refine ⟨h.1,?_⟩
 rcases h.2 with h2|⟨g,cap,cu,hv,hg,hh,r⟩
 ·exact Or.inl h2
 ·refine Or.inr ⟨g,cap,cu,hv,hg,(Below.heap_setCell _ _ _ g (fun e=>?_)).trans hh,r⟩
  have e':g=b:=e
  rw [e',hb] at hh
  simp at hh
theorem Sc.at (h:Sc w0 w b t c p i L) (j:Nat) (hj:j≤t.size) (hL:L.length≤j):Sc w0 (w.setCell ⟨b,3,none⟩ (.int .i64 j)) b t c p j L:=by
 obtain ⟨v,h1,h2⟩:=h.blk
 exact ⟨h.len,hj,hL,h.base,⟨v,(heap_setCell_same w b 3 _ 46 _ h1).trans rfl,own_set h2 h1⟩,h.below.setCell h.base _⟩
theorem Sc.fail (h:Sc w0 w b t c p i L) (c':Int):Sc w0 ((w.setCell ⟨b,0,none⟩ (.int .i64 c')).setCell ⟨b,1,none⟩ (.int .i64 i)) b t c' i i L:=by
 obtain ⟨v,h1,h2⟩:=h.blk
 have k1:(w.setCell ⟨b,0,none⟩ (.int .i64 c')).heap[b]?=some (.cells #[.int .i64 c',.int .i64 p,.string t,.int .i64 i,v] 46 (0,0)):=(heap_setCell_same w b 0 _ 46 _ h1).trans rfl
 exact ⟨h.len,h.le,h.many,h.base,⟨v,(heap_setCell_same (w.setCell ⟨b,0,none⟩ (.int .i64 c')) b 1 _ 46 _ k1).trans rfl,own_set (own_set h2 h1) k1⟩,(h.below.setCell h.base _).setCell h.base _⟩
theorem below_drew {B:Nat} {a w:World} (h:Below B a w) (n:Nat):Below B a (w.drewN n):=⟨h.os,h.tape,h.output,h.size,h.block⟩
theorem fail_any (h:Sc w0 w b t c p i L) (c':Int):Calls Tryz.prog 60 #[.pointer (some ⟨b,0,none⟩),.int .i64 c'] w fun e w'=>(∃ v,e=.returned v)∧Sc w0 w' b t c' i i L:=by
 have HR:=hide (h.fail c')
 obtain ⟨v,h1,h2⟩:=h.blk
 have hf:=frozen_at h1
 have hc:=cells_at h1
 clear h2 h h1
 go_enter Tryz.func60,Tryz.ntmps60
 go_wp2_with fail
 go_end0
 exact ⟨⟨_,rfl⟩,HR.out⟩
theorem note_call (k:Nat) (w:World) (hk:k<256):Calls Tryz.prog 41 #[.int .u8 k] w fun e w'=>e=.returned (.bool (!decide (k=10)))∧w'=w:=by
 by_cases h:k=10
 ·rw [decide_eq_true h]
  have d:((k:Int) != 10)=false:=by simp;omega
  clear h
  go_enter Tryz.func41,Tryz.ntmps41
  go_wp2_with fail
  go_ret
  exact ⟨rfl,rfl⟩
 ·rw [decide_eq_false h]
  have d:((k:Int) != 10)=true:=by simp;omega
  go_enter Tryz.func41,Tryz.ntmps41
  go_wp2_with fail
  go_ret
  exact ⟨rfl,rfl⟩
theorem row_ins_any (h:Sc w0 w b t c p i L) (g:Nat→Bool) (hg:g=insB):Calls Tryz.prog 40 #[.pointer (some ⟨b,0,none⟩),.func (.func 44) #[] #[]] w fun e w'=>∃ j,i≤j∧j≤t.size∧(∀ k,i≤k→k<j→g (byteAt t k)=true)∧(j=t.size∨g (byteAt t j)=false)∧e=.returned (.string (t.extract i j))∧Below w.heap.size w w':=by
 have hin:∀ (k:Nat) (w':World),k<256→Calls Tryz.prog 44 #[.int .u8 k] w' fun e w''=>e=.returned (.bool (g k))∧w''=w':=fun k w' hk=>by rw [hg];exact pin_any k w' hk
 have HG:=hide hg
 clear hg
 have hlen:=h.len
 have hle:=h.le
 obtain ⟨v,h1,h2⟩:=h.blk
 have hc:=cells_at h1
 clear h2 h h1
 go_enter Tryz.func40,Tryz.ntmps40
 go_wp2_with fail
 go_loopw [5] (fun e' wr=>∃ j:Nat,i≤j∧j≤t.size∧e'=.int .i64 j∧wr=w∧Hid (∀ k,i≤k→k<j→g (byteAt t k)=true)) (fun e' _=>t.size - (intOf e').toNat)
 case atStart=>exact ⟨i,Nat.le_refl _,hle,rfl,rfl,fun k _ _=>by omega⟩
 case round=>
  obtain ⟨j,hij,hjs,rfl,rfl,HE⟩:=hrel
  by_cases hjt:j<t.size
  ·have hjt':(j:Int)<t.size:=by omega
   have hjid:(0:Int)≤j∧(j:Int)<t.size:=by omega
   have hj8:t[j].toNat<256:=UInt8.toNat_lt _
   have HB:=hide (byteAt_get t j hjt)
   have hcall:=fun w'=>hin t[j].toNat w' hj8
   clear hin
   cases hI:g t[j].toNat with
   | true=>
    rw [hI] at hcall
    have HE3:Hid (∀ k,i≤k→k<j+1→g (byteAt t k)=true):=fun k k1 k2=>by
     by_cases e:k=j
     ·subst e;rw [HB.out];exact hI
     ·exact HE.out k k1 (by omega)
    clear hI
    go_wp2_with fail
    go_at_call 44
    refine (hcall _).mono ?_
    rintro e w1 ⟨rfl,rfl⟩
    go_wp2_with fail
    go_roundw
    case rel=>exact ⟨j+1,by omega,by omega,by go_num,trivial,HE3⟩
    case measure=>simp [intOf];omega
   | false=>
    rw [hI] at hcall
    have HF:Hid (g (byteAt t j)=false):=by show _=_;rw [HB.out];exact hI
    have hsl2:(0:Int)≤i∧(i:Int)≤j∧(j:Int)≤t.size:=by omega
    clear hI
    go_wp2_with fail
    go_at_call 44
    refine (hcall _).mono ?_
    rintro e w1 ⟨rfl,rfl⟩
    go_wp2_with fail
    go_quiet (fail)
    generalize nq=q
    go_wp2_with fail
    go_ret
    exact ⟨j,hij,hjs,HE.out,Or.inr HF.out,rfl,below_drew (Below.refl _ _) _⟩
  ·have HJ:Hid (j=t.size):=by show _=_;omega
   have hjt':¬ (j:Int)<t.size:=by omega
   have hsl2:(0:Int)≤i∧(i:Int)≤j∧(j:Int)≤t.size:=by omega
   clear hin
   go_wp2_with fail
   go_quiet (fail)
   generalize nq=q
   go_wp2_with fail
   go_ret
   exact ⟨j,hij,hjs,HE.out,Or.inl HJ.out,rfl,below_drew (Below.refl _ _) _⟩
theorem row_note_any (h:Sc w0 w b t c p i L) (g:Nat→Bool) (hg:g=fun k=>!decide (k=10)):Calls Tryz.prog 40 #[.pointer (some ⟨b,0,none⟩),.func (.func 41) #[] #[]] w fun e w'=>∃ j,i≤j∧j≤t.size∧(∀ k,i≤k→k<j→g (byteAt t k)=true)∧(j=t.size∨g (byteAt t j)=false)∧e=.returned (.string (t.extract i j))∧Below w.heap.size w w':=by
 have hin:∀ (k:Nat) (w':World),k<256→Calls Tryz.prog 41 #[.int .u8 k] w' fun e w''=>e=.returned (.bool (g k))∧w''=w':=fun k w' hk=>by rw [hg];exact note_call k w' hk
 have HG:=hide hg
 clear hg
 have hlen:=h.len
 have hle:=h.le
 obtain ⟨v,h1,h2⟩:=h.blk
 have hc:=cells_at h1
 clear h2 h h1
 go_enter Tryz.func40,Tryz.ntmps40
 go_wp2_with fail
 go_loopw [5] (fun e' wr=>∃ j:Nat,i≤j∧j≤t.size∧e'=.int .i64 j∧wr=w∧Hid (∀ k,i≤k→k<j→g (byteAt t k)=true)) (fun e' _=>t.size - (intOf e').toNat)
 case atStart=>exact ⟨i,Nat.le_refl _,hle,rfl,rfl,fun k _ _=>by omega⟩
 case round=>
  obtain ⟨j,hij,hjs,rfl,rfl,HE⟩:=hrel
  by_cases hjt:j<t.size
  ·have hjt':(j:Int)<t.size:=by omega
   have hjid:(0:Int)≤j∧(j:Int)<t.size:=by omega
   have hj8:t[j].toNat<256:=UInt8.toNat_lt _
   have HB:=hide (byteAt_get t j hjt)
   have hcall:=fun w'=>hin t[j].toNat w' hj8
   clear hin
   cases hI:g t[j].toNat with
   | true=>
    rw [hI] at hcall
    have HE3:Hid (∀ k,i≤k→k<j+1→g (byteAt t k)=true):=fun k k1 k2=>by
     by_cases e:k=j
     ·subst e;rw [HB.out];exact hI
     ·exact HE.out k k1 (by omega)
    clear hI
    go_wp2_with fail
    go_at_call 41
    refine (hcall _).mono ?_
    rintro e w1 ⟨rfl,rfl⟩
    go_wp2_with fail
    go_roundw
    case rel=>exact ⟨j+1,by omega,by omega,by go_num,trivial,HE3⟩
    case measure=>simp [intOf];omega
   | false=>
    rw [hI] at hcall
    have HF:Hid (g (byteAt t j)=false):=by show _=_;rw [HB.out];exact hI
    have hsl2:(0:Int)≤i∧(i:Int)≤j∧(j:Int)≤t.size:=by omega
    clear hI
    go_wp2_with fail
    go_at_call 41
    refine (hcall _).mono ?_
    rintro e w1 ⟨rfl,rfl⟩
    go_wp2_with fail
    go_quiet (fail)
    generalize nq=q
    go_wp2_with fail
    go_ret
    exact ⟨j,hij,hjs,HE.out,Or.inr HF.out,rfl,below_drew (Below.refl _ _) _⟩
  ·have HJ:Hid (j=t.size):=by show _=_;omega
   have hjt':¬ (j:Int)<t.size:=by omega
   have hsl2:(0:Int)≤i∧(i:Int)≤j∧(j:Int)≤t.size:=by omega
   clear hin
   go_wp2_with fail
   go_quiet (fail)
   generalize nq=q
   go_wp2_with fail
   go_ret
   exact ⟨j,hij,hjs,HE.out,Or.inl HJ.out,rfl,below_drew (Below.refl _ _) _⟩
end Go.Proofs.YthcfianhdkolhaaGreatDoor.X
