/- XAgn XPass XSc XTake XLx -/
import Derived.Test.YthcfianhdkolhaaGreatDoorXScan
import Derived.Test.YthcfianhdkolhaaGreatDoorXNum
import Derived.Carry
import Derived.Laws.Rows
import Derived.Test.YthcfianhdkolhaaGreatDoorSign
import Derived.Deep.RegionHeldLaw
import Derived.Lib.IndexAny
import Derived.Lib.Strings
namespace Go.Proofs.YthcfianhdkolhaaGreatDoor.X
open Go.RowKit
set_option linter.unusedVariables false
set_option linter.unusedSimpArgs false
theorem ba_ext {a b:ByteArray} (hs:a.size=b.size) (h:∀ j,j<a.size→byteAt a j=byteAt b j):a=b:=by
 apply ByteArray.ext
 apply Array.ext hs
 intro i h1 h2
 have:=h i h1
 rw [byteAt_get a i h1,byteAt_get b i h2] at this
 exact UInt8.toNat_inj.1 this
theorem byteAt_extract (t:ByteArray) (i e j:Nat) (he:e≤t.size) (hj:j<e - i):byteAt (t.extract i e) j=byteAt t (i+j):=by
 have h1:j<(t.extract i e).size:=by rw [ByteArray.size_extract];omega
 have h2:i+j<t.size:=by omega
 rw [byteAt_get _ _ h1,byteAt_get _ _ h2]
 rw [ByteArray.getElem_extract]
theorem rowEndN_of (t:ByteArray):∀ n to m,m<n→(∀ j,j<m→insB (byteAt t (to+j))=true)→insB (byteAt t (to+m))=false→rowEndN t n to=to+m
 | 0,to,m,h,_,_=>by omega
 | n+1,to,m,h,h1,h2=>by
  unfold rowEndN
  cases m with
  | zero=>rw [show to+0=to from rfl] at h2;rw [h2];rfl
  | succ m=>
   rw [if_pos (by have:=h1 0 (by omega);simpa using this),rowEndN_of t n (to+1) m (by omega) (fun j hj=>by have:=h1 (j+1) (by omega);rwa [show to+1+j=to+(j+1) by omega]) (by rwa [show to+1+m=to+(m+1) by omega])]
   omega
theorem rowEndN_ins (t:ByteArray):∀ n to j,to+j<rowEndN t n to→insB (byteAt t (to+j))=true
 | 0,to,j,h=>by unfold rowEndN at h;omega
 | n+1,to,j,h=>by
  unfold rowEndN at h
  split at h
  ·rename_i hi
   cases j with
   | zero=>exact hi
   | succ j=>
    have:=rowEndN_ins t n (to+1) j (by omega)
    rwa [show to+1+j=to+(j+1) by omega] at this
  ·omega
structure Has (S:ByteArray) (pos:Nat) (x:ByteArray):Prop where
 le:pos+x.size≤S.size
 at':∀ j,j<x.size→byteAt S (pos+j)=byteAt x j
 sp:pos+x.size<S.size→byteAt S (pos+x.size)=32
theorem rowEndN_all (t:ByteArray):∀ n to,(∀ j,j<n→insB (byteAt t (to+j))=true)→rowEndN t n to=to+n
 | 0,to,_=>rfl
 | n+1,to,h=>by
  unfold rowEndN
  rw [if_pos (by have:=h 0 (by omega);simpa using this),rowEndN_all t n (to+1) (fun j hj=>by have:=h (j+1) (by omega);rwa [show to+1+j=to+(j+1) by omega])]
  omega
def Good (x:ByteArray) (kind:Int) (text:ByteArray):Prop:=∀ S pos,Has S pos x→look S pos=⟨0,kind,text,pos+x.size⟩∧blank false (byteAt S pos)=false
def raw (kind:Int) (text:ByteArray):ByteArray:=if kind=3 then text++⟨#[76]⟩ else text
theorem Has.extract {S:ByteArray} {pos:Nat} {x:ByteArray} (h:Has S pos x):S.extract pos (pos+x.size)=x:=by
 have hl:=h.le
 apply ba_ext
 ·rw [ByteArray.size_extract];omega
 ·intro j hj
  rw [ByteArray.size_extract] at hj
  rw [byteAt_extract _ _ _ _ (by omega) (by omega),h.at' j (by omega)]
theorem Has.rowEnd {S:ByteArray} {pos:Nat} {x:ByteArray} (h:Has S pos x) (hi:∀ j,j<x.size→insB (byteAt x j)=true):X.rowEnd S pos=pos+x.size:=by
 have hl:=h.le
 unfold X.rowEnd
 by_cases hlt:pos+x.size<S.size
 ·exact rowEndN_of S _ _ _ (by omega) (fun j hj=>by rw [h.at' j hj];exact hi j hj) (by rw [h.sp hlt];rfl)
 ·rw [rowEndN_all S _ _ (fun j hj=>by rw [h.at' j (by omega)];exact hi j (by omega))]
  omega
theorem row_facts {t:ByteArray} {i:Nat} (hi:i<t.size) (h:insB (byteAt t i)=true):(t.extract i (rowEnd t i)).size=rowEnd t i - i∧1≤(t.extract i (rowEnd t i)).size∧byteAt (t.extract i (rowEnd t i)) 0=byteAt t i∧∀ j,j<(t.extract i (rowEnd t i)).size→insB (byteAt (t.extract i (rowEnd t i)) j)=true:=by
 have h1:=rowEnd_gt hi h
 have h2:=rowEnd_le (Nat.le_of_lt hi)
 have hs:(t.extract i (rowEnd t i)).size=rowEnd t i - i:=by rw [ByteArray.size_extract];omega
 refine ⟨hs,by omega,by rw [byteAt_extract _ _ _ _ h2 (by omega)];rfl,fun j hj=>?_⟩
 rw [byteAt_extract _ _ _ _ h2 (by omega)]
 exact rowEndN_ins t _ i j (by rw [show rowEndN t (t.size - i) i=rowEnd t i from rfl];omega)
theorem raw_row (x:ByteArray) (h1:1≤x.size):raw (if isL x=true then 3 else 2) (rowText x)=x:=by
 unfold raw rowText
 cases hL:isL x with
 | false=>simp
 | true=>
  rw [if_pos rfl,if_pos rfl,if_pos rfl]
  apply ba_ext
  ·rw [ByteArray.size_append,ByteArray.size_extract]
   show min (x.size - 1) x.size - 0+1=_
   omega
  ·intro j hj
   rw [ByteArray.size_append,ByteArray.size_extract] at hj
   have hj':j<x.size:=by have:(⟨#[76]⟩:ByteArray).size=1:=rfl;omega
   unfold isL at hL
   simp only [decide_eq_true_eq] at hL
   by_cases e:j=x.size - 1
   ·rw [e,hL]
    unfold byteAt
    rw [ByteArray.data_append,Array.getElem?_append_right (by show (x.extract 0 (x.size - 1)).size≤_;rw [ByteArray.size_extract];omega)]
    have e2:x.size - 1 - (x.extract 0 (x.size - 1)).data.size=0:=by show x.size - 1 - (x.extract 0 (x.size - 1)).size=0;rw [ByteArray.size_extract];omega
    rw [e2]
    rfl
   ·have e3:byteAt (x.extract 0 (x.size - 1)++⟨#[76]⟩) j=byteAt (x.extract 0 (x.size - 1)) j:=by
     unfold byteAt
     rw [ByteArray.data_append,Array.getElem?_append_left (by show j<(x.extract 0 (x.size - 1)).size;rw [ByteArray.size_extract];omega)]
    rw [e3,byteAt_extract _ _ _ _ (by omega) (by omega),Nat.zero_add]
theorem sign_at (s:ByteArray):∀ n j,signFrom s j n=⟨#[]⟩∨∃ m,j≤m∧m<j+n∧signFrom s j n=sigN m∧pre s m=true∧∀ i,j≤i→i<m→pre s i=false
 | 0,j=>Or.inl rfl
 | n+1,j=>by
  unfold signFrom
  cases hp:pre s j with
  | true=>exact Or.inr ⟨j,Nat.le_refl _,by omega,rfl,hp,fun i h1 h2=>by omega⟩
  | false=>
   rcases sign_at s n (j+1) with h|⟨m,h1,h2,h3,h4,h5⟩
   ·exact Or.inl h
   ·refine Or.inr ⟨m,by omega,by omega,h3,h4,fun i h6 h7=>?_⟩
    by_cases e:i=j
    ·subst e;exact hp
    ·exact h5 i (by omega) h7
theorem sig_ok:∀ m,m<20→1≤(sigN m).size∧∀ j,j<(sigN m).size→byteAt (sigN m) j≠32:=by
 intro m hm
 have:m=0∨m=1∨m=2∨m=3∨m=4∨m=5∨m=6∨m=7∨m=8∨m=9∨m=10∨m=11∨m=12∨m=13∨m=14∨m=15∨m=16∨m=17∨m=18∨m=19:=by omega
 have key:∀ x:ByteArray,(decide (1≤x.size) && (List.range x.size).all fun j=>decide (byteAt x j≠32))=true→1≤x.size∧∀ j,j<x.size→byteAt x j≠32:=fun x h=>by
  simp only [Bool.and_eq_true,decide_eq_true_eq,List.all_eq_true,List.mem_range] at h
  exact h
 rcases this with rfl|rfl|rfl|rfl|rfl|rfl|rfl|rfl|rfl|rfl|rfl|rfl|rfl|rfl|rfl|rfl|rfl|rfl|rfl|rfl<;>exact key _ (by decide)
theorem pre_iff (s:ByteArray) (j:Nat):pre s j=true ↔ (sigN j).size≤s.size∧∀ i,i<(sigN j).size→byteAt s i=byteAt (sigN j) i:=by
 unfold pre
 simp only [Bool.and_eq_true,decide_eq_true_eq,beq_iff_eq]
 constructor
 ·rintro ⟨h1,h2⟩
  refine ⟨h1,fun i hi=>?_⟩
  have e:s.extract 0 (sigN j).size=sigN j:=ByteArray.ext (Array.toList_inj.1 (by rw [← ByteArray.toList_eq,← ByteArray.toList_eq];exact h2))
  rw [← e,byteAt_extract _ _ _ _ h1 (by omega),Nat.zero_add]
 ·rintro ⟨h1,h2⟩
  refine ⟨h1,?_⟩
  rw [ba_ext (a:=s.extract 0 (sigN j).size) (b:=sigN j) (by rw [ByteArray.size_extract];omega) (fun i hi=>by
   rw [ByteArray.size_extract] at hi
   rw [byteAt_extract _ _ _ _ h1 (by omega),Nat.zero_add,h2 i (by omega)])]
theorem good_sign {u:ByteArray} {m:Nat} (hm:m<20) (h1:pre u m=true) (h2:∀ i,i<m→pre u i=false) (hb:blank false (byteAt u 0)=false) (hl:letB (byteAt u 0)=false) (hd:digB (byteAt u 0)=false):Good (sigN m) 4 (sigN m):=by
 intro S pos hS
 have ok:=sig_ok m hm
 have p1:=(pre_iff u m).1 h1
 have b0:byteAt S pos=byteAt u 0:=by
  have:=hS.at' 0 (by omega)
  rw [Nat.add_zero] at this
  rw [this,p1.2 0 (by omega)]
 have hsz:(S.extract pos S.size).size=S.size - pos:=by rw [ByteArray.size_extract];omega
 have hlt:=hS.le
 have hex:∀ j,j<S.size - pos→byteAt (S.extract pos S.size) j=byteAt S (pos+j):=fun j hj=>byteAt_extract _ _ _ _ (Nat.le_refl _) hj
 have hsg:signOf (S.extract pos S.size)=sigN m:=by
  refine signFrom_at _ 20 0 m (by omega) (by omega) (fun i _ hi=>?_) ?_
  ·rw [Bool.eq_false_iff]
   intro hp
   have q:=(pre_iff _ _).1 hp
   have okI:=sig_ok i (by omega)
   by_cases e:(sigN i).size≤(sigN m).size
   ·have:pre u i=true:=(pre_iff u i).2 ⟨by omega,fun j hj=>by
     rw [← q.2 j hj,hex j (by rw [hsz] at q;omega),hS.at' j (by omega),p1.2 j (by omega)]⟩
    rw [h2 i hi] at this
    cases this
   ·refine okI.2 (sigN m).size (by omega) ?_
    have q1:=q.1
    rw [hsz] at q1
    rw [← q.2 _ (by omega),hex _ (by omega)]
    exact hS.sp (by omega)
  ·refine (pre_iff _ _).2 ⟨by omega,fun j hj=>?_⟩
   rw [hex j (by omega),hS.at' j hj]
 constructor
 ·unfold look
  rw [b0,hl,hd,hsg]
  simp only [Bool.false_eq_true,if_false]
  rw [if_neg (by omega)]
 ·rw [b0];exact hb
theorem good_look {t:ByteArray} {i:Nat} (hi:i<t.size) (hb:blank false (byteAt t i)=false) (h:(look t i).code=0):
  Good (raw (look t i).kind (look t i).text) (look t i).kind (look t i).text∧i+(raw (look t i).kind (look t i).text).size=(look t i).next:=by
 by_cases h1:letB (byteAt t i)=true
 ·obtain ⟨f1,f2,f3,f4⟩:=row_facts hi (let_ins h1)
  have e:look t i=⟨if 16<rowEnd t i - i then 1 else 0,1,t.extract i (rowEnd t i),rowEnd t i⟩:=by unfold look;rw [if_pos h1]
  rw [e] at h ⊢
  simp only at h ⊢
  have hr:raw 1 (t.extract i (rowEnd t i))=t.extract i (rowEnd t i):=by unfold raw;rw [if_neg (by decide)]
  have h16:¬ 16<rowEnd t i - i:=by
   intro e2
   rw [if_pos e2] at h
   cases h
  rw [hr]
  refine ⟨fun S pos hS=>?_,by have:=rowEnd_gt hi (let_ins h1);omega⟩
  have b0:byteAt S pos=byteAt t i:=by
   have:=hS.at' 0 (by omega)
   rw [Nat.add_zero] at this
   rw [this,f3]
  refine ⟨?_,by rw [b0];exact hb⟩
  unfold look
  rw [b0,if_pos h1,hS.rowEnd f4,hS.extract,if_neg (by omega)]
 ·by_cases h2:digB (byteAt t i)=true
  ·obtain ⟨f1,f2,f3,f4⟩:=row_facts hi (dig_ins h2)
   have e:look t i=⟨rowCode (t.extract i (rowEnd t i)),if isL (t.extract i (rowEnd t i)) then 3 else 2,rowText (t.extract i (rowEnd t i)),rowEnd t i⟩:=by unfold look;rw [if_neg h1,if_pos h2]
   rw [e] at h ⊢
   simp only at h ⊢
   rw [raw_row _ f2]
   refine ⟨fun S pos hS=>?_,by have:=rowEnd_gt hi (dig_ins h2);omega⟩
   have b0:byteAt S pos=byteAt t i:=by
    have:=hS.at' 0 (by omega)
    rw [Nat.add_zero] at this
    rw [this,f3]
   refine ⟨?_,by rw [b0];exact hb⟩
   unfold look
   rw [b0,if_neg h1,if_pos h2,hS.rowEnd f4,hS.extract,h]
  ·have e:look t i=⟨if (signOf (t.extract i t.size)).size=0 then 2 else 0,4,signOf (t.extract i t.size),i+(signOf (t.extract i t.size)).size⟩:=by unfold look;rw [if_neg h1,if_neg h2]
   rw [e] at h ⊢
   simp only at h ⊢
   have hr:∀ x,raw 4 x=x:=fun x=>by unfold raw;rw [if_neg (by decide)]
   rw [hr]
   refine ⟨?_,rfl⟩
   have b0:byteAt (t.extract i t.size) 0=byteAt t i:=byteAt_extract _ _ _ _ (Nat.le_refl _) (by omega)
   rcases sign_at (t.extract i t.size) 20 0 with h3|⟨m,_,h4,h5,h6,h7⟩
   ·rw [show signOf (t.extract i t.size)=⟨#[]⟩ from h3] at h
    rw [if_pos (show (⟨#[]⟩:ByteArray).size=0 from rfl)] at h
    cases h
   ·rw [show signOf (t.extract i t.size)=sigN m from h5]
    exact good_sign (by omega) h6 (fun i hi=>h7 i (Nat.zero_le _) hi) (by rw [b0];exact hb) (by rw [b0];simpa using h1) (by rw [b0];simpa using h2)
def Fine (l:List Tok):Prop:=∀ k∈l,Good (raw k.kind k.text) k.kind k.text∧1≤(raw k.kind k.text).size
def rawLen (l:List Tok):Nat:=(l.map fun k=>(raw k.kind k.text).size).sum
theorem rawLen_app (l:List Tok) (k:Tok):rawLen (l++[k])=rawLen l+(raw k.kind k.text).size:=by simp [rawLen]
theorem fine_len {l:List Tok} (h:Fine l):l.length≤rawLen l:=by
 induction l with
 | nil=>simp
 | cons k r ih=>
  have h1:=(h k (by simp)).2
  have h2:=ih (fun x hx=>h x (by simp [hx]))
  simp only [rawLen,List.map_cons,List.sum_cons,List.length_cons] at *
  omega
theorem scanN_fine (t:ByteArray):∀ n i note l,i≤t.size→Fine l→rawLen l≤i→(scanN t n i note l).2.1=0→Fine (scanN t n i note l).1∧rawLen (scanN t n i note l).1≤t.size
 | 0,i,note,l,hi,hl,hr,_=>⟨hl,Nat.le_trans hr hi⟩
 | n+1,i,note,l,hi,hl,hr,hc=>by
  rw [scanN_succ] at hc ⊢
  by_cases h1:i<t.size
  ·rw [if_pos h1] at hc ⊢
   by_cases h2:blank note (byteAt t i)=true
   ·rw [if_pos h2] at hc ⊢
    exact scanN_fine t n _ _ l (by omega) hl (by omega) hc
   ·rw [if_neg h2] at hc ⊢
    by_cases h3:(look t i).code=0
    ·rw [if_pos h3] at hc ⊢
     have hnote:note=false:=by
      cases note
      ·rfl
      ·exact absurd (by unfold blank;rfl) h2
     subst hnote
     have hg:=good_look h1 (by simpa using h2) h3
     have hn:=look_next h1 h3
     have hle:=look_le h1
     refine scanN_fine t n _ _ _ hle ?_ ?_ hc
     ·intro k hk
      rcases List.mem_append.1 hk with hk|hk
      ·exact hl k hk
      ·simp at hk
       subst hk
       exact ⟨hg.1,by have:=hg.2;simp only;omega⟩
     ·rw [rawLen_app]
      have:=hg.2
      simp only
      omega
    ·rw [if_neg h3] at hc
     exact absurd hc h3
  ·rw [if_neg h1]
   exact ⟨hl,Nat.le_trans hr hi⟩
theorem scan_fine (t:ByteArray) (hc:(scan t).2.1=0):Fine (scan t).1∧rawLen (scan t).1≤t.size:=by
 unfold scan at hc ⊢
 by_cases h:4000<t.size
 ·rw [if_pos h] at hc
  cases hc
 ·rw [if_neg h] at hc ⊢
  exact scanN_fine t _ 0 false [] (Nat.zero_le _) (fun _ h=>by simp at h) (by simp [rawLen]) hc
def str (l:List UInt8):ByteArray:=⟨l.toArray⟩
theorem byteAt_str (l:List UInt8) (i:Nat):byteAt (str l) i=match l[i]? with|some c=>c.toNat|none=>0:=by
 unfold byteAt str
 rw [List.getElem?_toArray]
 cases l[i]?<;>rfl
theorem z_byteAt_list (x:ByteArray) (i:Nat):byteAt x i=match x.data.toList[i]? with|some c=>c.toNat|none=>0:=by
 unfold byteAt
 rw [Array.getElem?_toList]
 cases x.data[i]?<;>rfl
def Like (l m:List Tok):Prop:=l.map (fun k=>(k.kind,k.text))=m.map (fun k=>(k.kind,k.text))
theorem scan_bad {t:ByteArray} (hc:(scan t).2.1≠0):(scan t).1=[]:=by
 have key:∀ n i note l,(scanN t n i note l).2.1≠0→(scanN t n i note l).1=[]:=by
  intro n
  induction n with
  | zero=>intro i note l h;exact absurd rfl h
  | succ n ih=>
   intro i note l h
   rw [scanN_succ] at h ⊢
   split
   ·rename_i h1
    rw [if_pos h1] at h
    split
    ·rename_i h2
     rw [if_pos h2] at h
     exact ih _ _ _ h
    ·rename_i h2
     rw [if_neg h2] at h
     split
     ·rename_i h3
      rw [if_pos h3] at h
      exact ih _ _ _ h
     ·rfl
   ·rename_i h1
    rw [if_neg h1] at h
    exact absurd rfl h
 unfold scan at hc ⊢
 split
 ·rfl
 ·rename_i h
  rw [if_neg h] at hc
  exact key _ _ _ _ hc
def spB:List Tok→List UInt8
 | []=>[]
 | [k]=>(raw k.kind k.text).data.toList
 | k::l::r=>(raw k.kind k.text).data.toList++(32::spB (l::r))
theorem spB_cons (k:Tok) (r:List Tok):∃ u,spB (k::r)=(raw k.kind k.text).data.toList++u∧(u=[]∧r=[]∨u=32::spB r∧r≠[]):=by
 cases r with
 | nil=>exact ⟨[],by simp [spB],Or.inl ⟨rfl,rfl⟩⟩
 | cons l r=>exact ⟨_,rfl,Or.inr ⟨rfl,by simp⟩⟩
theorem spB_len {r:List Tok}:(spB r).length≤rawLen r+r.length:=by
 induction r with
 | nil=>simp [spB]
 | cons k r ih=>
  obtain ⟨u,e,h⟩:=spB_cons k r
  have hx:(raw k.kind k.text).data.toList.length=(raw k.kind k.text).size:=by rw [Array.length_toList];rfl
  have hr:rawLen (k::r)=(raw k.kind k.text).size+rawLen r:=by simp [rawLen]
  rw [e,List.length_append,hx,hr,List.length_cons]
  rcases h with ⟨h,_⟩|⟨h,_⟩
  ·rw [h];simp
   omega
  ·rw [h,List.length_cons]
   omega
theorem has_spB (p:List UInt8) (k:Tok) (r:List Tok):Has (str (p++spB (k::r))) p.length (raw k.kind k.text):=by
 obtain ⟨u,e,h⟩:=spB_cons k r
 have hx:(raw k.kind k.text).data.toList.length=(raw k.kind k.text).size:=by rw [Array.length_toList];rfl
 have hs:(str (p++spB (k::r))).size=p.length+((raw k.kind k.text).size+u.length):=by
  show (p++spB (k::r)).length=_
  rw [e,List.length_append,List.length_append,hx]
 refine ⟨by omega,fun j hj=>?_,fun hlt=>?_⟩
 ·rw [byteAt_str,z_byteAt_list,e,List.getElem?_append_right (by omega),show p.length+j - p.length=j by omega,List.getElem?_append_left (by omega)]
 ·rcases h with ⟨h,_⟩|⟨h,_⟩
  ·rw [hs,h] at hlt
   simp at hlt
  ·rw [byteAt_str,e,List.getElem?_append_right (by omega),show p.length+(raw k.kind k.text).size - p.length=(raw k.kind k.text).size by omega,List.getElem?_append_right (by omega),hx,Nat.sub_self,h]
   rfl
theorem scan_spB:∀ (r:List Tok) (p:List UInt8) (acc:List Tok) (n:Nat),Fine r→(spB r).length≤n→∃ m,scanN (str (p++spB r)) n p.length false acc=(acc++m,0,0)∧Like m r
 | [],p,acc,n,_,_=>by
  refine ⟨[],?_,rfl⟩
  rw [List.append_nil]
  cases n with
  | zero=>rfl
  | succ n=>
   rw [scanN_succ,if_neg]
   show ¬ p.length<(p++spB []).length
   simp [spB]
 | k::r,p,acc,n,hf,hn=>by
  have hh:=has_spB p k r
  have hg:=hf k (by simp)
  have hgl:=hg.1 _ _ hh
  have h1:=hg.2
  obtain ⟨u,e,h⟩:=spB_cons k r
  have hx:(raw k.kind k.text).data.toList.length=(raw k.kind k.text).size:=by rw [Array.length_toList];rfl
  have hlen:(spB (k::r)).length=(raw k.kind k.text).size+u.length:=by rw [e,List.length_append,hx]
  obtain ⟨n,rfl⟩:∃ n',n=n'+1:=⟨n - 1,by omega⟩
  have hpos:p.length<(str (p++spB (k::r))).size:=by have:=hh.le;omega
  have step1:scanN (str (p++spB (k::r))) (n+1) p.length false acc=scanN (str (p++spB (k::r))) n (p.length+(raw k.kind k.text).size) false (acc++[⟨k.kind,k.text,p.length⟩]):=by
   rw [scanN_succ,if_pos hpos,hgl.2,if_neg (by decide),hgl.1,if_pos rfl]
  rcases h with ⟨hu,hr⟩|⟨hu,hr⟩
  ·subst hr
   refine ⟨[⟨k.kind,k.text,p.length⟩],?_,rfl⟩
   rw [step1]
   have hend:¬ p.length+(raw k.kind k.text).size<(str (p++spB [k])).size:=by
    show ¬ _<(p++spB [k]).length
    rw [List.length_append,hlen,hu]
    simp
   cases n with
   | zero=>rfl
   | succ n=>rw [scanN_succ,if_neg hend]
  ·rw [hu,List.length_cons] at hlen
   obtain ⟨n,rfl⟩:∃ n',n=n'+1:=⟨n - 1,by omega⟩
   have hlt:p.length+(raw k.kind k.text).size<(str (p++spB (k::r))).size:=by
    show _<(p++spB (k::r)).length
    rw [List.length_append,hlen]
    omega
   have hS:p++spB (k::r)=(p++((raw k.kind k.text).data.toList++[32]))++spB r:=by rw [e,hu];simp
   obtain ⟨m,hm,hl⟩:=scan_spB r (p++((raw k.kind k.text).data.toList++[32])) (acc++[⟨k.kind,k.text,p.length⟩]) n (fun x hx=>hf x (by simp [hx])) (by omega)
   have hpl:(p++((raw k.kind k.text).data.toList++[32])).length=p.length+(raw k.kind k.text).size+1:=by
    simp only [List.length_append,hx,List.length_cons,List.length_nil]
    omega
   refine ⟨⟨k.kind,k.text,p.length⟩::m,?_,?_⟩
   ·rw [step1,scanN_succ,if_pos hlt,hh.sp hlt,if_pos (by decide),show note2 false 32=false from rfl,← hpl,hS,hm]
    simp
   ·unfold Like at hl ⊢
    simp only [List.map_cons,hl]
theorem scan_shown {r:List Tok} (hf:Fine r) (hl:(spB r).length≤4000):(scan (str (spB r))).2.1=0∧Like (scan (str (spB r))).1 r:=by
 obtain ⟨m,hm,hk⟩:=scan_spB r [] [] (str (spB r)).size hf (Nat.le_refl _)
 have e:scan (str (spB r))=(m,0,0):=by
  unfold scan
  rw [if_neg (by show ¬ 4000<(spB r).length;omega)]
  exact hm
 rw [e]
 exact ⟨rfl,hk⟩
theorem scanN_fuel (t:ByteArray):∀ n m i note l,t.size - i≤n→t.size - i≤m→scanN t n i note l=scanN t m i note l
 | 0,0,_,_,_,_,_=>rfl
 | 0,m+1,i,note,l,h,_=>by
  rw [scanN_succ,if_neg (by omega)]
  rfl
 | n+1,0,i,note,l,_,h=>by
  rw [scanN_succ,if_neg (by omega)]
  rfl
 | n+1,m+1,i,note,l,h1,h2=>by
  rw [scanN_succ,scanN_succ]
  by_cases hi:i<t.size
  ·rw [if_pos hi,if_pos hi]
   rw [scanN_fuel t n m (i+1) _ l (by omega) (by omega)]
   by_cases hc:(look t i).code=0
   ·have:=look_next hi hc
    rw [scanN_fuel t n m (look t i).next note _ (by omega) (by omega)]
   ·rw [if_neg hc,if_neg hc]
  ·rw [if_neg hi,if_neg hi]
def scanAt (t:ByteArray) (i:Nat) (note:Bool) (l:List Tok):List Tok × Int × Nat:=scanN t (t.size - i) i note l
theorem scanAt_end (t:ByteArray) (i:Nat) (note:Bool) (l:List Tok) (h:t.size≤i):scanAt t i note l=(l,0,0):=by
 unfold scanAt
 rw [show t.size - i=0 by omega]
 rfl
theorem scanAt_step (t:ByteArray) (i:Nat) (note:Bool) (l:List Tok) (h:i<t.size):scanAt t i note l=if blank note (byteAt t i) then scanAt t (i+1) (note2 note (byteAt t i)) l else if (look t i).code=0 then scanAt t (look t i).next note (l++[⟨(look t i).kind,(look t i).text,i⟩]) else ([],(look t i).code,i):=by
 unfold scanAt
 obtain ⟨n,hn⟩:∃ n,t.size - i=n+1:=⟨t.size - i - 1,by omega⟩
 rw [hn,scanN_succ,if_pos h]
 rw [scanN_fuel t n (t.size - (i+1)) (i+1) _ l (by omega) (by omega)]
 by_cases hc:(look t i).code=0
 ·have:=look_next h hc
  rw [scanN_fuel t n (t.size - (look t i).next) (look t i).next note _ (by omega) (by omega)]
 ·rw [if_neg hc,if_neg hc]
theorem scan_at (t:ByteArray) (h:t.size≤4000):scan t=scanAt t 0 false []:=by
 unfold scan scanAt
 rw [if_neg (by omega)]
 rfl
theorem pass_blank (t:ByteArray) (i:Nat) (h:i<t.size) (hb:byteAt t i=32∨byteAt t i=10) (l:List Tok):scanAt t i false l=scanAt t (i+1) false l:=by
 rw [scanAt_step t i false l h]
 rcases hb with e|e<;>(rw [e];rfl)
theorem note_run (t:ByteArray) (e:Nat) (he:e≤t.size):∀ d k,k+d=e→(∀ j,k≤j→j<e→byteAt t j≠10)→∀ l,scanAt t k true l=scanAt t e true l
 | 0,k,h,_,l=>by rw [show k=e by omega]
 | d+1,k,h,hk,l=>by
  rw [scanAt_step t k true l (by omega)]
  have h10:=hk k (Nat.le_refl _) (by omega)
  rw [show blank true (byteAt t k)=true from rfl,show note2 true (byteAt t k)=true by unfold note2;simp [h10],if_pos rfl]
  exact note_run t e he d (k+1) (by omega) (fun j h1 h2=>hk j (by omega) h2) l
theorem pass_note (t:ByteArray) (i e:Nat) (h:i<t.size) (hb:byteAt t i=35) (hie:i<e) (he:e≤t.size) (hk:∀ j,i≤j→j<e→byteAt t j≠10) (hl:e=t.size∨byteAt t e=10) (l:List Tok):scanAt t i false l=scanAt t e false l:=by
 rw [scanAt_step t i false l h,hb,show blank false 35=true from rfl,if_pos rfl,show note2 false 35=true from rfl]
 rw [note_run t e he (e - (i+1)) (i+1) (by omega) (fun j h1 h2=>hk j (by omega) h2) l]
 rcases hl with hl|hl
 ·rw [scanAt_end _ _ _ _ (by omega),scanAt_end _ _ _ _ (by omega)]
 ·by_cases hlt:e<t.size
  ·rw [scanAt_step t e true l hlt,scanAt_step t e false l hlt,hl]
   rfl
  ·rw [scanAt_end _ _ _ _ (by omega),scanAt_end _ _ _ _ (by omega)]
theorem take_tok (t:ByteArray) (i:Nat) (h:i<t.size) (hb:blank false (byteAt t i)=false) (l:List Tok):scanAt t i false l=if (look t i).code=0 then scanAt t (look t i).next false (l++[⟨(look t i).kind,(look t i).text,i⟩]) else ([],(look t i).code,i):=by
 rw [scanAt_step t i false l h,hb]
 rfl
theorem rowEnd_eq {t:ByteArray} {i e:Nat} (hi:i≤e) (he:e≤t.size) (hk:∀ j,i≤j→j<e→insB (byteAt t j)=true) (hl:e=t.size∨insB (byteAt t e)=false):rowEnd t i=e:=by
 have key:∀ n k,k≤e→i≤k→t.size=k+n→rowEndN t n k=e:=by
  intro n
  induction n with
  | zero=>intro k h1 h2 h3;show k=e;omega
  | succ n ih=>
   intro k h1 h2 h3
   unfold rowEndN
   by_cases q:k<e
   ·rw [if_pos (hk k h2 q)]
    exact ih (k+1) (by omega) (by omega) (by omega)
   ·obtain rfl:k=e:=by omega
    rcases hl with hl|hl
    ·omega
    ·rw [hl];rfl
 unfold rowEnd
 exact key _ i hi (Nat.le_refl _) (by omega)
end Go.Proofs.YthcfianhdkolhaaGreatDoor.X
namespace Go.Proofs.YthcfianhdkolhaaGreatDoor.X
open Go.RowKit
set_option maxRecDepth 100000
set_option maxHeartbeats 2000000
set_option linter.unusedVariables false
set_option linter.unusedSimpArgs false
theorem cells_at {W:World} {b:Nat} {cur:Array Value} {t:TypeId} (h:W.heap[b]?=some (.cells cur t (0,0))):∀ o,W.cell? ⟨b,o,none⟩=cur[o]?:=fun o=>by simp [World.cell?,h]
theorem frozen_at {W:World} {b:Nat} {cur:Array Value} {t:TypeId} (h:W.heap[b]?=some (.cells cur t (0,0))):∀ o,W.frozen? ⟨b,o,none⟩=false:=fun o=>by simp only [World.frozen?,h];rfl
structure Sc (w0 w:World) (b:Nat) (t:ByteArray) (c p:Int) (i:Nat) (L:List Tok):Prop where
 len:t.size≤4000
 le:i≤t.size
 many:L.length≤i
 base:w0.heap.size≤b
 blk:∃ v,w.heap[b]?=some (.cells #[.int .i64 c,.int .i64 p,.string t,.int .i64 i,v] 46 (0,0))∧w.ownsRow w0.heap.size 44 3 v L.length (toks L)
 below:Below w0.heap.size w0 w
variable {w0 w : World} {b : Nat} {t : ByteArray} {c p : Int} {i : Nat} {L : List Tok}
theorem Sc.lt (h:Sc w0 w b t c p i L):b<w.heap.size:=by
 obtain ⟨v,h1,_⟩:=h.blk
 exact (Array.getElem?_eq_some_iff.1 h1).1
theorem Sc.kept (h:Sc w0 w b t c p i L) {w':World} (hb:Below w.heap.size w w'):Sc w0 w' b t c p i L:=by
 obtain ⟨v,h1,h2⟩:=h.blk
 exact ⟨h.len,h.le,h.many,h.base,⟨v,(hb.block b h.lt).trans h1,own_below h2 hb⟩,h.below.trans (hb.mono h.below.size)⟩
theorem own_set {w:World} {ob:Nat} {v:Value} {n:Nat} {xs:List Value} {b o:Nat} {x:Value} {cur:Array Value} (h:w.ownsRow ob 44 3 v n xs) (hb:w.heap[b]?=some (.cells cur 46 (0,0))):(w.setCell ⟨b,o,none⟩ x).ownsRow ob 44 3 v n xs:=by
 refine ⟨h.1,?_⟩
 rcases h.2 with h2|⟨g,cap,cu,hv,hg,hh,r⟩
 ·exact Or.inl h2
 ·refine Or.inr ⟨g,cap,cu,hv,hg,(Below.heap_setCell _ _ _ g (fun e=>?_)).trans hh,r⟩
  have e':g=b:=e
  rw [e',hb] at hh
  simp at hh
theorem Sc.at (h:Sc w0 w b t c p i L) (j:Nat) (hj:j≤t.size) (hL:L.length≤j):Sc w0 (w.setCell ⟨b,3,none⟩ (.int .i64 j)) b t c p j L:=by
 obtain ⟨v,h1,h2⟩:=h.blk
 exact ⟨h.len,hj,hL,h.base,⟨v,(heap_setCell_same w b 3 _ 46 _ h1).trans rfl,own_set h2 h1⟩,h.below.setCell h.base _⟩
theorem Sc.fail (h:Sc w0 w b t c p i L) (c':Int):Sc w0 ((w.setCell ⟨b,0,none⟩ (.int .i64 c')).setCell ⟨b,1,none⟩ (.int .i64 i)) b t c' i i L:=by
 obtain ⟨v,h1,h2⟩:=h.blk
 have k1:(w.setCell ⟨b,0,none⟩ (.int .i64 c')).heap[b]?=some (.cells #[.int .i64 c',.int .i64 p,.string t,.int .i64 i,v] 46 (0,0)):=(heap_setCell_same w b 0 _ 46 _ h1).trans rfl
 exact ⟨h.len,h.le,h.many,h.base,⟨v,(heap_setCell_same (w.setCell ⟨b,0,none⟩ (.int .i64 c')) b 1 _ 46 _ k1).trans rfl,own_set (own_set h2 h1) k1⟩,(h.below.setCell h.base _).setCell h.base _⟩
theorem below_drew {B:Nat} {a w:World} (h:Below B a w) (n:Nat):Below B a (w.drewN n):=⟨h.os,h.tape,h.output,h.size,h.block⟩
theorem fail_any (h:Sc w0 w b t c p i L) (c':Int):Calls Tryz.prog 60 #[.pointer (some ⟨b,0,none⟩),.int .i64 c'] w fun e w'=>(∃ v,e=.returned v)∧Sc w0 w' b t c' i i L:=by
 have HR:=hide (h.fail c')
 obtain ⟨v,h1,h2⟩:=h.blk
 have hf:=frozen_at h1
 have hc:=cells_at h1
 clear h2 h h1
 go_enter Tryz.func60,Tryz.ntmps60
 go_wp2_with fail
 go_end0
 exact ⟨⟨_,rfl⟩,HR.out⟩
theorem note_call (k:Nat) (w:World) (hk:k<256):Calls Tryz.prog 41 #[.int .u8 k] w fun e w'=>e=.returned (.bool (!decide (k=10)))∧w'=w:=by
 by_cases h:k=10
 ·rw [decide_eq_true h]
  have d:((k:Int) != 10)=false:=by simp;omega
  clear h
  go_enter Tryz.func41,Tryz.ntmps41
  go_wp2_with fail
  go_ret
  exact ⟨rfl,rfl⟩
 ·rw [decide_eq_false h]
  have d:((k:Int) != 10)=true:=by simp;omega
  go_enter Tryz.func41,Tryz.ntmps41
  go_wp2_with fail
  go_ret
  exact ⟨rfl,rfl⟩
theorem row_ins_any (h:Sc w0 w b t c p i L) (g:Nat→Bool) (hg:g=insB):Calls Tryz.prog 40 #[.pointer (some ⟨b,0,none⟩),.func (.func 44) #[] #[]] w fun e w'=>∃ j,i≤j∧j≤t.size∧(∀ k,i≤k→k<j→g (byteAt t k)=true)∧(j=t.size∨g (byteAt t j)=false)∧e=.returned (.string (t.extract i j))∧Below w.heap.size w w':=by
 have hin:∀ (k:Nat) (w':World),k<256→Calls Tryz.prog 44 #[.int .u8 k] w' fun e w''=>e=.returned (.bool (g k))∧w''=w':=fun k w' hk=>by rw [hg];exact pin_any k w' hk
 have HG:=hide hg
 clear hg
 have hlen:=h.len
 have hle:=h.le
 obtain ⟨v,h1,h2⟩:=h.blk
 have hc:=cells_at h1
 clear h2 h h1
 go_enter Tryz.func40,Tryz.ntmps40
 go_wp2_with fail
 go_loopw [5] (fun e' wr=>∃ j:Nat,i≤j∧j≤t.size∧e'=.int .i64 j∧wr=w∧Hid (∀ k,i≤k→k<j→g (byteAt t k)=true)) (fun e' _=>t.size - (intOf e').toNat)
 case atStart=>exact ⟨i,Nat.le_refl _,hle,rfl,rfl,fun k _ _=>by omega⟩
 case round=>
  obtain ⟨j,hij,hjs,rfl,rfl,HE⟩:=hrel
  by_cases hjt:j<t.size
  ·have hjt':(j:Int)<t.size:=by omega
   have hjid:(0:Int)≤j∧(j:Int)<t.size:=by omega
   have hj8:t[j].toNat<256:=UInt8.toNat_lt _
   have HB:=hide (byteAt_get t j hjt)
   have hcall:=fun w'=>hin t[j].toNat w' hj8
   clear hin
   cases hI:g t[j].toNat with
   | true=>
    rw [hI] at hcall
    have HE3:Hid (∀ k,i≤k→k<j+1→g (byteAt t k)=true):=fun k k1 k2=>by
     by_cases e:k=j
     ·subst e;rw [HB.out];exact hI
     ·exact HE.out k k1 (by omega)
    clear hI
    go_wp2_with fail
    go_at_call 44
    refine (hcall _).mono ?_
    rintro e w1 ⟨rfl,rfl⟩
    go_wp2_with fail
    go_roundw
    case rel=>exact ⟨j+1,by omega,by omega,by go_num,trivial,HE3⟩
    case measure=>simp [intOf];omega
   | false=>
    rw [hI] at hcall
    have HF:Hid (g (byteAt t j)=false):=by show _=_;rw [HB.out];exact hI
    have hsl2:(0:Int)≤i∧(i:Int)≤j∧(j:Int)≤t.size:=by omega
    clear hI
    go_wp2_with fail
    go_at_call 44
    refine (hcall _).mono ?_
    rintro e w1 ⟨rfl,rfl⟩
    go_wp2_with fail
    go_quiet (fail)
    generalize nq=q
    go_wp2_with fail
    go_ret
    exact ⟨j,hij,hjs,HE.out,Or.inr HF.out,rfl,below_drew (Below.refl _ _) _⟩
  ·have HJ:Hid (j=t.size):=by show _=_;omega
   have hjt':¬ (j:Int)<t.size:=by omega
   have hsl2:(0:Int)≤i∧(i:Int)≤j∧(j:Int)≤t.size:=by omega
   clear hin
   go_wp2_with fail
   go_quiet (fail)
   generalize nq=q
   go_wp2_with fail
   go_ret
   exact ⟨j,hij,hjs,HE.out,Or.inl HJ.out,rfl,below_drew (Below.refl _ _) _⟩
theorem row_note_any (h:Sc w0 w b t c p i L) (g:Nat→Bool) (hg:g=fun k=>!decide (k=10)):Calls Tryz.prog 40 #[.pointer (some ⟨b,0,none⟩),.func (.func 41) #[] #[]] w fun e w'=>∃ j,i≤j∧j≤t.size∧(∀ k,i≤k→k<j→g (byteAt t k)=true)∧(j=t.size∨g (byteAt t j)=false)∧e=.returned (.string (t.extract i j))∧Below w.heap.size w w':=by
 have hin:∀ (k:Nat) (w':World),k<256→Calls Tryz.prog 41 #[.int .u8 k] w' fun e w''=>e=.returned (.bool (g k))∧w''=w':=fun k w' hk=>by rw [hg];exact note_call k w' hk
 have HG:=hide hg
 clear hg
 have hlen:=h.len
 have hle:=h.le
 obtain ⟨v,h1,h2⟩:=h.blk
 have hc:=cells_at h1
 clear h2 h h1
 go_enter Tryz.func40,Tryz.ntmps40
 go_wp2_with fail
 go_loopw [5] (fun e' wr=>∃ j:Nat,i≤j∧j≤t.size∧e'=.int .i64 j∧wr=w∧Hid (∀ k,i≤k→k<j→g (byteAt t k)=true)) (fun e' _=>t.size - (intOf e').toNat)
 case atStart=>exact ⟨i,Nat.le_refl _,hle,rfl,rfl,fun k _ _=>by omega⟩
 case round=>
  obtain ⟨j,hij,hjs,rfl,rfl,HE⟩:=hrel
  by_cases hjt:j<t.size
  ·have hjt':(j:Int)<t.size:=by omega
   have hjid:(0:Int)≤j∧(j:Int)<t.size:=by omega
   have hj8:t[j].toNat<256:=UInt8.toNat_lt _
   have HB:=hide (byteAt_get t j hjt)
   have hcall:=fun w'=>hin t[j].toNat w' hj8
   clear hin
   cases hI:g t[j].toNat with
   | true=>
    rw [hI] at hcall
    have HE3:Hid (∀ k,i≤k→k<j+1→g (byteAt t k)=true):=fun k k1 k2=>by
     by_cases e:k=j
     ·subst e;rw [HB.out];exact hI
     ·exact HE.out k k1 (by omega)
    clear hI
    go_wp2_with fail
    go_at_call 41
    refine (hcall _).mono ?_
    rintro e w1 ⟨rfl,rfl⟩
    go_wp2_with fail
    go_roundw
    case rel=>exact ⟨j+1,by omega,by omega,by go_num,trivial,HE3⟩
    case measure=>simp [intOf];omega
   | false=>
    rw [hI] at hcall
    have HF:Hid (g (byteAt t j)=false):=by show _=_;rw [HB.out];exact hI
    have hsl2:(0:Int)≤i∧(i:Int)≤j∧(j:Int)≤t.size:=by omega
    clear hI
    go_wp2_with fail
    go_at_call 41
    refine (hcall _).mono ?_
    rintro e w1 ⟨rfl,rfl⟩
    go_wp2_with fail
    go_quiet (fail)
    generalize nq=q
    go_wp2_with fail
    go_ret
    exact ⟨j,hij,hjs,HE.out,Or.inr HF.out,rfl,below_drew (Below.refl _ _) _⟩
  ·have HJ:Hid (j=t.size):=by show _=_;omega
   have hjt':¬ (j:Int)<t.size:=by omega
   have hsl2:(0:Int)≤i∧(i:Int)≤j∧(j:Int)≤t.size:=by omega
   clear hin
   go_wp2_with fail
   go_quiet (fail)
   generalize nq=q
   go_wp2_with fail
   go_ret
   exact ⟨j,hij,hjs,HE.out,Or.inl HJ.out,rfl,below_drew (Below.refl _ _) _⟩
end Go.Proofs.YthcfianhdkolhaaGreatDoor.X
namespace Go.Proofs.YthcfianhdkolhaaGreatDoor.X
open Go.RowKit
set_option maxRecDepth 100000
set_option maxHeartbeats 2000000
set_option linter.unusedVariables false
set_option linter.unusedSimpArgs false
variable {w0 w : World} {b : Nat} {t : ByteArray} {c p : Int} {i : Nat} {L : List Tok}
theorem clone_any (x:ByteArray) (w:World) (hx:x.size≤4000):Calls Tryz.prog 85 #[.string x] w fun e w'=>e=.returned (.string x)∧Below w.heap.size w w':=by
 have h:=fun w'=>Tryz.stringslite_Clone x w' (by omega)
 go_enter Tryz.func85,Tryz.ntmps85
 go_wp2_with fail
 go_at_call 111
 refine (h _).mono ?_
 rintro e w1 ⟨rfl,hb1⟩
 go_wp2_with fail
 go_ret
 exact ⟨rfl,hb1⟩
theorem own_block {w:World} {ob:Nat} {v:Value} {n:Nat} {xs:List Value} (h:w.ownsRow ob 44 3 v n xs):∀ k,v.ownBlock=some k→ob≤k∧∃ cur,w.heap[k]?=some (.cells cur 44 (0,0)):=by
 intro k hk
 rcases h.2 with ⟨rfl,_⟩|⟨g,cap,cu,rfl,hg,hh,r⟩
 ·simp [Value.ownBlock] at hk
 ·obtain rfl:g=k:=by simpa [Value.ownBlock] using hk
  exact ⟨hg,cu,hh⟩
theorem take_end {w1 w3:World} {v:Value} {k:Int} {x:ByteArray} {n g cap:Nat} (h:Sc w0 w1 b t c p i L) (hin:i+n≤t.size) (hn:1≤n) (h1:w1.heap[b]?=some (.cells #[.int .i64 c,.int .i64 p,.string t,.int .i64 i,v] 46 (0,0))) (hv:w1.ownsRow w0.heap.size 44 3 v L.length (toks L))
  (hown:w3.ownsRow w0.heap.size 44 3 (.slice (some ⟨g,0,none⟩) (L.length+1) cap) (L.length+1) (toks L++(⟨k,x,i⟩:Tok).cells)) (hg:(w1.alloc (.cells #[.int .i64 k,.string x,.int .i64 i] 44)).grownBy w3 v.ownBlock):
  w3.heap[b]?=some (.cells #[.int .i64 c,.int .i64 p,.string t,.int .i64 i,v] 46 (0,0))∧(w3.setCell ⟨b,4,none⟩ (.slice (some ⟨g,0,none⟩) (L.length+1) cap)).heap[b]?=some (.cells #[.int .i64 c,.int .i64 p,.string t,.int .i64 i,.slice (some ⟨g,0,none⟩) (L.length+1) cap] 46 (0,0)) ∧
   Sc w0 ((w3.setCell ⟨b,4,none⟩ (.slice (some ⟨g,0,none⟩) (L.length+1) cap)).setCell ⟨b,3,none⟩ (.int .i64 ((i:Int)+n))) b t c p (i+n) (L++[⟨k,x,i⟩]):=by
 have hlt:=h.lt
 have hne:v.ownBlock≠some b:=fun e=>by
  obtain ⟨_,cur,hc⟩:=own_block hv b e
  rw [h1] at hc
  simp at hc
 have k0:(w1.alloc (.cells #[.int .i64 k,.string x,.int .i64 i] 44)).heap[b]?=some (.cells #[.int .i64 c,.int .i64 p,.string t,.int .i64 i,v] 46 (0,0)):=(Below.heap_alloc _ _ _ hlt).trans h1
 have k3:w3.heap[b]?=some (.cells #[.int .i64 c,.int .i64 p,.string t,.int .i64 i,v] 46 (0,0)):=(hg.block b (by simp;omega) (fun e=>hne e.symm)).trans k0
 have k4:(w3.setCell ⟨b,4,none⟩ (.slice (some ⟨g,0,none⟩) (L.length+1) cap)).heap[b]?=some (.cells #[.int .i64 c,.int .i64 p,.string t,.int .i64 i,.slice (some ⟨g,0,none⟩) (L.length+1) cap] 46 (0,0)):=(heap_setCell_same w3 b 4 _ 46 _ k3).trans rfl
 have b3:Below w0.heap.size w0 w3:=(h.below.alloc h.below.size _).grown hg (by have:=h.below.size;simp;omega) (fun q hq=>(own_block hv q hq).1)
 have hm:=h.many
 refine ⟨k3,k4,h.len,hin,by simp;omega,h.base,⟨_,(heap_setCell_same _ b 3 _ 46 _ k4).trans rfl,?_⟩,(b3.setCell h.base _).setCell h.base _⟩
 rw [toks_app,show (L++[(⟨k,x,i⟩:Tok)]).length=L.length+1 by simp]
 exact own_set (own_set hown k3) k4
theorem take_any (h:Sc w0 w b t c p i L) (k:Int) (x:ByteArray) (n:Nat) (hn:1≤n) (hin:i+n≤t.size) (hx:x.size≤4000):Calls Tryz.prog 61 #[.pointer (some ⟨b,0,none⟩),.int .i64 k,.string x,.int .i64 n] w fun e w'=>(∃ v,e=.returned v)∧Sc w0 w' b t c p (i+n) (L++[⟨k,x,i⟩]):=by
 have hcl:=fun w'=>clone_any x w' hx
 have HS:=hide h
 have hlen:=h.len
 clear h
 go_enter Tryz.func61,Tryz.ntmps61
 go_wp2_with fail
 have hd:Sc w0 w.drew b t c p i L:=HS.out.kept (Below.refl _ _).drew
 have HD:=hide hd
 obtain ⟨v,h1,h2⟩:=hd.blk
 have hc:=cells_at h1
 have H1:=hide h1
 have H2:=hide h2
 have hfr:=frozen_at h1
 have hmany:=hd.many
 clear h1 h2 hd
 obtain ⟨i0,hi,hz0,hz1,hz2⟩:=info_parts info44
 have hwn:IntKind.i64.wrap ((i:Int)+n)=(i:Int)+n:=by rw [IntKind.wrap_i64];omega
 refine wp_region_held_drew (S:=fun w'=>w'.cell? ⟨b,3,none⟩=some (.int .i64 i)) (by kernel_rfl) (hc 3) (fun hHeld=>?_)
 refine tq 0 ?_
 simp only [qq]
 refine tq 1 ?_
 simp only [qq]
 refine tq 2 ?_
 simp only [qq]
 refine tq 3 ?_
 simp only [qq]
 refine tq 5 ?_
 simp only [qq]
 refine tq 6 ?_
 simp only [qq]
 refine tq 8 ?_
 simp only [qq]
 refine tq 9 ?_
 simp only [qq]
 refine tq 10 ?_
 simp only [qq]
 refine tq 11 ?_
 simp only [qq]
 refine rq2 4 7 (fun K hK=>?_) fun K hK=>?_
 ·have hcw:=hc
  go_simp
  refine hK.out _ _ (hc 3) (fun hHeld1=>?_)
  clear hK K hcw
  try simp only [qq]
  refine rq 7 fun K hK=>?_
  go_simp
  refine (hcl _).mono ?_
  rintro e w1 ⟨rfl,hb1⟩
  have HS1:=hide (HD.out.kept hb1)
  have hbk1:w1.heap[b]?=some (.cells #[.int .i64 c,.int .i64 p,.string t,.int .i64 i,v] 46 (0,0)):=(hb1.block b HD.out.lt).trans H1.out
  have HOw1:=hide (own_below H2.out hb1)
  have hc1:=cells_at hbk1
  have HBk1:=hide hbk1
  clear hbk1 hb1
  refine hK.out _ _ (hc1 3) (fun hHeld2=>?_)
  clear hK K
  try simp only [qq]
  refine tq 12 ?_
  simp only [qq]
  refine rq 13 fun K hK=>?_
  go_simp
  have hB:(w1.alloc (.cells #[.int .i64 k,.string x,.int .i64 i] 44)).heap[w1.heap.size]?=some (.cells #[.int .i64 k,.string x,.int .i64 i] 44 (0,0)):=heap_alloc_new w1 _
  have hc2:∀ o,(w1.alloc (.cells #[.int .i64 k,.string x,.int .i64 i] 44)).cell? ⟨b,o,none⟩=(#[Value.int .i64 c,.int .i64 p,.string t,.int .i64 i,v])[o]?:=fun o=>(World.cell?_alloc_past _ _ _ HS1.out.lt).trans (hc1 o)
  have HO2:=hide (own_below HOw1.out ((Below.refl w1.heap.size w1).alloc (Nat.le_refl _) (.cells #[.int .i64 k,.string x,.int .i64 i] 44)))
  refine hK.out _ _ (hc2 3) (fun hHeld3=>?_)
  clear hK K
  try simp only [qq]
  refine rq 14 fun K hK=>?_
  refine step_append_lies _ rfl (.tmp 12) (.tmp 21) 35 rfl w0.heap.size 44 i0 _ 3 32 Tryz.underlying35 hi hz0 hz1 hz2 rfl (by decide) v L.length (toks L) rfl HO2.out ⟨w1.heap.size,0,none⟩ 1 1 [.int .i64 k,.string x,.int .i64 i] rfl rfl (World.news_of_block hB) ?_ (by decide) (by unfold maxLen;omega) (by omega) (by have:=HS1.out.below.size;simp;omega) _ rfl ?_
  ·intro u hu;simp at hu;rcases hu with rfl|rfl|rfl<;>rfl
  intro g cap w3 hown3 hgr _ _
  obtain ⟨k3,k4,kS⟩:=take_end HS1.out hin hn HBk1.out HOw1.out hown3 hgr
  have HE:=hide kS
  have hc3:=cells_at k3
  have hf3:=frozen_at k3
  have hc4:=cells_at k4
  have hf4:=frozen_at k4
  clear kS hown3 hgr hB hc2 hc1 hc
  refine hK.out _ _ (hc3 3) (fun hHeld4=>?_)
  clear hK K
  try simp only [qq]
  refine tq 15 ?_
  simp only [qq]
  refine tq 16 ?_
  simp only [qq]
  refine rq 17 fun K hK=>?_
  go_simp
  refine hK.out _ _ (hc4 3) (fun hHeld5=>?_)
  clear hK K
  refine wpAnyH_done (by kernel_rfl) ?_ _
  clear hHeld1 hHeld2 hHeld3 hHeld4 hHeld5
  generalize hw4:w3.setCell ⟨b,4,none⟩ (.slice (some ⟨g,0,none⟩) (L.length+1) cap)=w4 at *
  clear hc3 hf3 k3 k4 hw4
  go_wp2_with fail
  go_end0
  exact ⟨⟨_,rfl⟩,HE.out⟩
 ·go_simp
  refine (hcl _).mono ?_
  rintro e w1 ⟨rfl,hb1⟩
  have HS1:=hide (HD.out.kept hb1)
  have hbk1:w1.heap[b]?=some (.cells #[.int .i64 c,.int .i64 p,.string t,.int .i64 i,v] 46 (0,0)):=(hb1.block b HD.out.lt).trans H1.out
  have HOw1:=hide (own_below H2.out hb1)
  have hc1:=cells_at hbk1
  have HBk1:=hide hbk1
  clear hbk1 hb1
  refine hK.out _ _ (hc1 3) (fun hHeld1=>?_)
  clear hK K
  try simp only [qq]
  refine tq 12 ?_
  simp only [qq]
  refine rq2 4 13 (fun K hK=>?_) fun K hK=>?_
  ·have hcw:=hc1
   go_simp
   refine hK.out _ _ (hc1 3) (fun hHeld2=>?_)
   clear hK K hcw
   try simp only [qq]
   refine rq 13 fun K hK=>?_
   go_simp
   have hB:(w1.alloc (.cells #[.int .i64 k,.string x,.int .i64 i] 44)).heap[w1.heap.size]?=some (.cells #[.int .i64 k,.string x,.int .i64 i] 44 (0,0)):=heap_alloc_new w1 _
   have hc2:∀ o,(w1.alloc (.cells #[.int .i64 k,.string x,.int .i64 i] 44)).cell? ⟨b,o,none⟩=(#[Value.int .i64 c,.int .i64 p,.string t,.int .i64 i,v])[o]?:=fun o=>(World.cell?_alloc_past _ _ _ HS1.out.lt).trans (hc1 o)
   have HO2:=hide (own_below HOw1.out ((Below.refl w1.heap.size w1).alloc (Nat.le_refl _) (.cells #[.int .i64 k,.string x,.int .i64 i] 44)))
   refine hK.out _ _ (hc2 3) (fun hHeld3=>?_)
   clear hK K
   try simp only [qq]
   refine rq 14 fun K hK=>?_
   refine step_append_lies _ rfl (.tmp 12) (.tmp 21) 35 rfl w0.heap.size 44 i0 _ 3 32 Tryz.underlying35 hi hz0 hz1 hz2 rfl (by decide) v L.length (toks L) rfl HO2.out ⟨w1.heap.size,0,none⟩ 1 1 [.int .i64 k,.string x,.int .i64 i] rfl rfl (World.news_of_block hB) ?_ (by decide) (by unfold maxLen;omega) (by omega) (by have:=HS1.out.below.size;simp;omega) _ rfl ?_
   ·intro u hu;simp at hu;rcases hu with rfl|rfl|rfl<;>rfl
   intro g cap w3 hown3 hgr _ _
   obtain ⟨k3,k4,kS⟩:=take_end HS1.out hin hn HBk1.out HOw1.out hown3 hgr
   have HE:=hide kS
   have hc3:=cells_at k3
   have hf3:=frozen_at k3
   have hc4:=cells_at k4
   have hf4:=frozen_at k4
   clear kS hown3 hgr hB hc2 hc1 hc
   refine hK.out _ _ (hc3 3) (fun hHeld4=>?_)
   clear hK K
   try simp only [qq]
   refine tq 15 ?_
   simp only [qq]
   refine tq 16 ?_
   simp only [qq]
   refine rq 17 fun K hK=>?_
   go_simp
   refine hK.out _ _ (hc4 3) (fun hHeld5=>?_)
   clear hK K
   refine wpAnyH_done (by kernel_rfl) ?_ _
   clear hHeld1 hHeld2 hHeld3 hHeld4 hHeld5
   generalize hw4:w3.setCell ⟨b,4,none⟩ (.slice (some ⟨g,0,none⟩) (L.length+1) cap)=w4 at *
   clear hc3 hf3 k3 k4 hw4
   go_wp2_with fail
   go_end0
   exact ⟨⟨_,rfl⟩,HE.out⟩
  ·go_simp
   have hB:(w1.alloc (.cells #[.int .i64 k,.string x,.int .i64 i] 44)).heap[w1.heap.size]?=some (.cells #[.int .i64 k,.string x,.int .i64 i] 44 (0,0)):=heap_alloc_new w1 _
   have hc2:∀ o,(w1.alloc (.cells #[.int .i64 k,.string x,.int .i64 i] 44)).cell? ⟨b,o,none⟩=(#[Value.int .i64 c,.int .i64 p,.string t,.int .i64 i,v])[o]?:=fun o=>(World.cell?_alloc_past _ _ _ HS1.out.lt).trans (hc1 o)
   have HO2:=hide (own_below HOw1.out ((Below.refl w1.heap.size w1).alloc (Nat.le_refl _) (.cells #[.int .i64 k,.string x,.int .i64 i] 44)))
   refine hK.out _ _ (hc2 3) (fun hHeld2=>?_)
   clear hK K
   try simp only [qq]
   refine rq 4 fun K hK=>?_
   have hcw:=hc2
   go_simp
   refine hK.out _ _ (hc2 3) (fun hHeld3=>?_)
   clear hK K hcw
   try simp only [qq]
   refine rq 14 fun K hK=>?_
   refine step_append_lies _ rfl (.tmp 12) (.tmp 21) 35 rfl w0.heap.size 44 i0 _ 3 32 Tryz.underlying35 hi hz0 hz1 hz2 rfl (by decide) v L.length (toks L) rfl HO2.out ⟨w1.heap.size,0,none⟩ 1 1 [.int .i64 k,.string x,.int .i64 i] rfl rfl (World.news_of_block hB) ?_ (by decide) (by unfold maxLen;omega) (by omega) (by have:=HS1.out.below.size;simp;omega) _ rfl ?_
   ·intro u hu;simp at hu;rcases hu with rfl|rfl|rfl<;>rfl
   intro g cap w3 hown3 hgr _ _
   obtain ⟨k3,k4,kS⟩:=take_end HS1.out hin hn HBk1.out HOw1.out hown3 hgr
   have HE:=hide kS
   have hc3:=cells_at k3
   have hf3:=frozen_at k3
   have hc4:=cells_at k4
   have hf4:=frozen_at k4
   clear kS hown3 hgr hB hc2 hc1 hc
   refine hK.out _ _ (hc3 3) (fun hHeld4=>?_)
   clear hK K
   try simp only [qq]
   refine tq 15 ?_
   simp only [qq]
   refine tq 16 ?_
   simp only [qq]
   refine rq 17 fun K hK=>?_
   go_simp
   refine hK.out _ _ (hc4 3) (fun hHeld5=>?_)
   clear hK K
   refine wpAnyH_done (by kernel_rfl) ?_ _
   clear hHeld1 hHeld2 hHeld3 hHeld4 hHeld5
   generalize hw4:w3.setCell ⟨b,4,none⟩ (.slice (some ⟨g,0,none⟩) (L.length+1) cap)=w4 at *
   clear hc3 hf3 k3 k4 hw4
   go_wp2_with fail
   go_end0
   exact ⟨⟨_,rfl⟩,HE.out⟩
end Go.Proofs.YthcfianhdkolhaaGreatDoor.X
namespace Go.Proofs.YthcfianhdkolhaaGreatDoor.X
open Go.RowKit
set_option linter.unusedVariables false
set_option linter.unusedSimpArgs false
theorem list_ne (x:ByteArray) (h:1≤x.size):x.data.toList≠[]:=fun e=>by
 have h2:=Lib.size_eq x
 rw [e,List.length_nil] at h2
 omega
theorem last_of (x:ByteArray) (h:1≤x.size):∃ r c,x.data.toList=r++[c]∧r.length=x.size - 1∧byteAt x (x.size - 1)=c.toNat:=by
 have hne:x.data.toList≠[]:=list_ne x (by omega)
 have hl:=Lib.size_eq x
 refine ⟨x.data.toList.dropLast,x.data.toList.getLast hne,(List.dropLast_concat_getLast hne).symm,by rw [List.length_dropLast];omega,?_⟩
 have hx:x.size - 1<x.size:=by omega
 unfold byteAt
 have e:x.data[x.size - 1]?=some (x.data.toList.getLast hne):=by
  rw [← Array.getElem?_toList,List.getLast_eq_getElem]
  rw [List.getElem?_eq_getElem (by omega)]
  congr 1
  all_goals (try congr 1)
  all_goals (try omega)
 rw [e]
theorem suf_isL (x:ByteArray) (h:1≤x.size):Lib.hasSuffix x.data.toList [76]=isL x:=by
 obtain ⟨r,c,e,_,hb⟩:=last_of x h
 unfold Lib.hasSuffix isL
 rw [e,hb]
 have:([76]:List UInt8).isSuffixOf (r++[c])=(76 == c):=by simp [List.isSuffixOf,List.isPrefixOf]
 rw [this]
 by_cases q:c.toNat=76
 ·have:c=76:=UInt8.toNat_inj.1 q
  subst this
  rfl
 ·have q2:¬ (76:UInt8)=c:=fun e=>q (by rw [← e];rfl)
  rw [decide_eq_false q]
  simpa using q2
theorem trim_text (x:ByteArray) (h:1≤x.size):(⟨(Lib.trimSuffix x.data.toList [76]).toArray⟩:ByteArray)=rowText x:=by
 unfold Lib.trimSuffix rowText
 rw [suf_isL x h]
 cases isL x with
 | false=>rfl
 | true=>
  apply ByteArray.ext
  apply Array.toList_inj.1
  rw [if_pos rfl,if_pos rfl,Lib.extract_data]
  rw [List.drop_zero,Nat.sub_zero,Lib.size_eq]
  rfl
theorem text_size (x:ByteArray) (h:1≤x.size):(rowText x).size=if isL x then x.size - 1 else x.size:=by
 unfold rowText
 cases isL x with
 | false=>rfl
 | true=>rw [if_pos rfl,if_pos rfl,ByteArray.size_extract];omega
theorem text_pos (x:ByteArray) (h:1≤x.size) (hd:digB (byteAt x 0)=true):1≤(rowText x).size:=by
 rw [text_size x h]
 cases hL:isL x with
 | false=>exact h
 | true=>
  have h2:2≤x.size:=by
   by_cases q:x.size=1
   ·unfold isL at hL
    rw [show x.size - 1=0 by omega] at hL
    have:=of_decide_eq_true hL
    rw [this] at hd
    exact absurd hd (by decide)
   ·omega
  rw [if_pos rfl]
  omega
def decB (x:ByteArray):Bool:=((List.range x.size).all fun i=>digB (byteAt x i)) && (decide (x.size=1) || !decide (byteAt x 0=48))
theorem rowC_bad (x m:ByteArray) (h1:1≤x.size) (h:decB x=false):rowC x m=2:=by
 unfold decB at h
 unfold rowC
 cases ha:((List.range x.size).all fun i=>digB (byteAt x i)) with
 | false=>rfl
 | true=>
  rw [ha,Bool.true_and,Bool.or_eq_false_iff] at h
  have e1:x.size≠1:=of_decide_eq_false h.1
  have e2:byteAt x 0=48:=by simpa using h.2
  rw [if_neg (by simp),if_pos ⟨by omega,e2⟩]
theorem byteAt_list (x:ByteArray) (i:Nat) (c:UInt8) (h:x.data.toList[i]?=some c):byteAt x i=c.toNat:=by
 unfold byteAt
 rw [← Array.getElem?_toList,h]
theorem decB_all {x:ByteArray} (h:decB x=true):AllD x.data.toList∧(1<x.data.toList.length→∀ c,x.data.toList.head?=some c→c.toNat≠48):=by
 unfold decB at h
 rw [Bool.and_eq_true] at h
 refine ⟨fun c hc=>?_,fun hl c hc e=>?_⟩
 ·obtain ⟨i,hi,e⟩:=List.getElem_of_mem hc
  have hb:=byteAt_list x i c (by rw [List.getElem?_eq_getElem hi,e])
  have:=List.all_eq_true.1 h.1 i (List.mem_range.2 (by rw [Lib.size_eq];exact hi))
  rw [hb] at this
  unfold digB at this
  simpa using this
 ·have hb:=byteAt_list x 0 c (by rw [← List.head?_eq_getElem?];exact hc)
  have h2:=h.2
  rw [hb,e] at h2
  rw [← Lib.size_eq] at hl
  simp at h2
  omega
theorem most_all:AllD mostW.data.toList∧AllD mostL.data.toList:=by
 constructor<;>(intro c hc;revert c hc;decide)
theorem above_num (x m:ByteArray) (h1:1≤x.size) (h:decB x=true) (hm:AllD m.data.toList) (hmz:∀ c,m.data.toList.head?=some c→c.toNat≠48) (hmn:m.data.toList≠[]):aboveB x m=decide (valN m.data.toList 0<valN x.data.toList 0):=by
 have hxn:x.data.toList≠[]:=list_ne x (by omega)
 rw [← above_val (decB_all h).1 (decB_all h).2 hm hmz hmn hxn]
 unfold aboveB
 rw [Lib.toList_data,Lib.toList_data,Lib.size_eq,Lib.size_eq]
theorem rowC_w (x:ByteArray) (h1:1≤x.size) (h:decB x=true):(Lib.parseIntB 32 x.data.toList=.range∧rowC x mostW=6)∨((∃ v,Lib.parseIntB 32 x.data.toList=.ok v)∧rowC x mostW=0):=by
 have hxn:x.data.toList≠[]:=list_ne x (by omega)
 have hA:=above_num x mostW h1 h most_all.1 (by intro c hc;revert c hc;decide) (by decide)
 have hr:rowC x mostW=if aboveB x mostW then 6 else 0:=by
  unfold decB at h
  rw [Bool.and_eq_true] at h
  unfold rowC
  rw [h.1,if_neg (by simp),if_neg]
  intro q
  have h2:=h.2
  rw [q.2] at h2
  simp at h2
  omega
 have hv:valN mostW.data.toList 0=2147483647:=by decide
 rw [hr,hA,hv,int_val 32 (by omega) x.data.toList (decB_all h).1 hxn]
 by_cases q:2147483647<valN x.data.toList 0
 ·left
  rw [decide_eq_true q,if_pos (by omega)]
  exact ⟨rfl,rfl⟩
 ·right
  rw [decide_eq_false q,if_neg (by omega)]
  exact ⟨⟨_,rfl⟩,rfl⟩
theorem rowC_l (x:ByteArray) (h1:1≤x.size) (h:decB x=true):(Lib.parseIntB 64 x.data.toList=.range∧rowC x mostL=6)∨((∃ v,Lib.parseIntB 64 x.data.toList=.ok v)∧rowC x mostL=0):=by
 have hxn:x.data.toList≠[]:=list_ne x (by omega)
 have hA:=above_num x mostL h1 h most_all.2 (by intro c hc;revert c hc;decide) (by decide)
 have hr:rowC x mostL=if aboveB x mostL then 6 else 0:=by
  unfold decB at h
  rw [Bool.and_eq_true] at h
  unfold rowC
  rw [h.1,if_neg (by simp),if_neg]
  intro q
  have h2:=h.2
  rw [q.2] at h2
  simp at h2
  omega
 have hv:valN mostL.data.toList 0=9223372036854775807:=by decide
 rw [hr,hA,hv,int_val 64 (by omega) x.data.toList (decB_all h).1 hxn]
 by_cases q:9223372036854775807<valN x.data.toList 0
 ·left
  rw [decide_eq_true q,if_pos (by omega)]
  exact ⟨rfl,rfl⟩
 ·right
  rw [decide_eq_false q,if_neg (by omega)]
  exact ⟨⟨_,rfl⟩,rfl⟩
theorem pre_is (s:ByteArray) (j:Nat):pre s j=(signs.getD j []).isPrefixOf s.data.toList:=by
 unfold pre
 rw [Lib.toList_data (sigN j),Lib.extract_toList,List.drop_zero,Nat.sub_zero]
 have e:(sigN j).size=(sigN j).data.toList.length:=Lib.size_eq _
 have e2:(sigN j).data.toList=signs.getD j []:=rfl
 rw [e,e2,Lib.size_eq s]
 exact Lib.hasPrefix_of_take s.data.toList (signs.getD j [])
def chars:List UInt8:=[123,125,40,41,59,44,46,61,60,43,45,42,47,37,38,124,94,33]
theorem sign_dots (s:ByteArray) (h:Lib.hasPrefix s.data.toList [46,46,46]=true):signOf s=⟨#[46,46,46]⟩:=by
 unfold signOf signFrom
 rw [pre_is]
 have e:(signs.getD 0 [])=[46,46,46]:=rfl
 rw [e,if_pos (show ([46,46,46]:List UInt8).isPrefixOf s.data.toList=true from h)]
 rfl
theorem sign_eqs (s:ByteArray) (h0:Lib.hasPrefix s.data.toList [46,46,46]=false) (h:Lib.hasPrefix s.data.toList [61,61]=true):signOf s=⟨#[61,61]⟩:=by
 have h0':pre s 0=false:=by rw [pre_is];exact h0
 have h1':pre s 1=true:=by rw [pre_is];exact h
 unfold signOf signFrom signFrom
 rw [h0',h1']
 rfl
theorem pre_one (s:ByteArray) (c:UInt8) (r:List UInt8) (hs:s.data.toList=c::r) (j:Nat) (d:UInt8) (hj:signs.getD j []=[d]):pre s j=(d == c):=by
 rw [pre_is,hs,hj]
 simp [List.isPrefixOf]
theorem sign_one (s:ByteArray) (c:UInt8) (r:List UInt8) (hs:s.data.toList=c::r) (h0:Lib.hasPrefix s.data.toList [46,46,46]=false) (h1:Lib.hasPrefix s.data.toList [61,61]=false) (hc:chars.contains c=true):signOf s=⟨#[c]⟩:=by
 have h0':pre s 0=false:=by rw [pre_is];exact h0
 have h1':pre s 1=false:=by rw [pre_is];exact h1
 have hp:=pre_one s c r hs
 have h2:=hp 2 123 rfl
 have h3:=hp 3 125 rfl
 have h4:=hp 4 40 rfl
 have h5:=hp 5 41 rfl
 have h6:=hp 6 59 rfl
 have h7:=hp 7 44 rfl
 have h8:=hp 8 46 rfl
 have h9:=hp 9 61 rfl
 have h10:=hp 10 60 rfl
 have h11:=hp 11 43 rfl
 have h12:=hp 12 45 rfl
 have h13:=hp 13 42 rfl
 have h14:=hp 14 47 rfl
 have h15:=hp 15 37 rfl
 have h16:=hp 16 38 rfl
 have h17:=hp 17 124 rfl
 have h18:=hp 18 94 rfl
 have h19:=hp 19 33 rfl
 clear hp
 rw [List.contains_iff_mem] at hc
 simp only [chars,List.mem_cons,List.not_mem_nil,or_false] at hc
 unfold signOf
 simp only [signFrom,h0',h1',h2,h3,h4,h5,h6,h7,h8,h9,h10,h11,h12,h13,h14,h15,h16,h17,h18,h19]
 rcases hc with rfl|rfl|rfl|rfl|rfl|rfl|rfl|rfl|rfl|rfl|rfl|rfl|rfl|rfl|rfl|rfl|rfl|rfl<;>rfl
theorem sign_none (s:ByteArray) (c:UInt8) (r:List UInt8) (hs:s.data.toList=c::r) (h0:Lib.hasPrefix s.data.toList [46,46,46]=false) (h1:Lib.hasPrefix s.data.toList [61,61]=false) (hc:chars.contains c=false):signOf s=⟨#[]⟩:=by
 have hp:=pre_one s c r hs
 have hne:∀ d,d∈chars→(d == c)=false:=fun d hd=>by
  rw [beq_eq_false_iff_ne]
  rintro rfl
  rw [List.contains_iff_mem.2 hd] at hc
  cases hc
 refine signFrom_skip s 20 0 (fun i _ hi=>?_)
 have:i=0∨i=1∨i=2∨i=3∨i=4∨i=5∨i=6∨i=7∨i=8∨i=9∨i=10∨i=11∨i=12∨i=13∨i=14∨i=15∨i=16∨i=17∨i=18∨i=19:=by omega
 rcases this with rfl|rfl|rfl|rfl|rfl|rfl|rfl|rfl|rfl|rfl|rfl|rfl|rfl|rfl|rfl|rfl|rfl|rfl|rfl|rfl
 ·rw [pre_is];exact h0
 ·rw [pre_is];exact h1
 all_goals exact (hp _ _ rfl).trans (hne _ (by decide))
end Go.Proofs.YthcfianhdkolhaaGreatDoor.X
