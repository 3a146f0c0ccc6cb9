/- PcA PcB -/
import Derived.Test.YthcfianhdkolhaaGreatDoorSynBridge
import Derived.Test.YthcfianhdkolhaaGreatDoorPbZ
import Derived.Test.YthcfianhdkolhaaGreatDoorXPScan
namespace Go.Proofs.YthcfianhdkolhaaGreatDoor.Y
open Go.RowKit Go.Proofs.YthcfianhdkolhaaGreatDoor.S
set_option linter.unusedVariables false
set_option linter.unusedSimpArgs false
inductive Bd:Nd→Prop
 | mk (k:Int) (t:List UInt8) (v:Int) (l:List Nd):t.length≤4000→-9223372036854775807≤v→v≤9223372036854775807→(∀ x,x∈l→Bd x)→Bd (.mk k t v l)
def BdL (l:List Nd):Prop:=∀ x,x∈l→Bd x
def BdV:V→Prop
 | .nd x=>Bd x
 | .row l d=>BdL l
def TB (ts:List Tk):Prop:=∀ t,t∈ts→t.text.length≤4000∧((t.kind=2∨t.kind=3)→0≤digits t.text 0∧digits t.text 0≤9223372036854775807)
def Gd (o:O):Prop:=∀ v r,o=some (.ok v r)→BdV v∧TB r
theorem bdL_nil:BdL []:=fun x h=>by simp at h
theorem bdL_one {x:Nd} (h:Bd x):BdL [x]:=fun y hy=>by simp at hy;rw [hy];exact h
theorem bdL_cons {x:Nd} {l:List Nd} (h:Bd x) (k:BdL l):BdL (x::l):=fun y hy=>by
 rcases List.mem_cons.1 hy with rfl|hy
 ·exact h
 ·exact k y hy
theorem bdL_app {l m:List Nd} (h:BdL l) (k:BdL m):BdL (l++m):=fun y hy=>by
 rcases List.mem_append.1 hy with hy|hy
 ·exact h y hy
 ·exact k y hy
theorem bd0 {k:Int} {l:List Nd} (h:BdL l):Bd (.mk k [] 0 l):=Bd.mk k [] 0 l (by simp) (by omega) (by omega) h
theorem bds {k:Int} {s:List UInt8} {l:List Nd} (hs:s.length≤4000) (h:BdL l):Bd (.mk k s 0 l):=Bd.mk k s 0 l hs (by omega) (by omega) h
theorem tb_tail {ts:List Tk} (h:TB ts):TB ts.tail:=fun t ht=>h t (List.mem_of_mem_tail ht)
theorem tb_hd {ts:List Tk} (h:TB ts):(hd ts).length≤4000:=by
 cases ts with
 | nil=>simp [hd]
 | cons t r=>
  show (Tk.txt t).length≤4000
  unfold Tk.txt
  split
  ·simp
  ·exact (h t List.mem_cons_self).1
theorem gd_andN {x:O} {f:Nd→List Tk→O} (h:Gd x) (k:∀ a r,Bd a→TB r→Gd (f a r)):Gd (andN x f):=fun v r e=>by
 unfold andN at e
 split at e
 ·rename_i a s
  obtain ⟨h1,h2⟩:=h (.nd a) s rfl
  exact k a s h1 h2 v r e
 ·cases e
 ·cases e
theorem gd_andR {x:O} {f:List Nd→Bool→List Tk→O} (h:Gd x) (k:∀ l d r,BdL l→TB r→Gd (f l d r)):Gd (andR x f):=fun v r e=>by
 unfold andR at e
 split at e
 ·rename_i l d s
  obtain ⟨h1,h2⟩:=h (.row l d) s rfl
  exact k l d s h1 h2 v r e
 ·cases e
 ·cases e
theorem gd_must {s:List UInt8} {ts:List Tk} {f:List Tk→O} (ht:TB ts) (k:∀ r,TB r→Gd (f r)):Gd (must s ts f):=by
 unfold must
 split
 ·exact k _ (tb_tail ht)
 ·exact fun v r e=>by cases e
theorem gd_name {ts:List Tk} {f:List UInt8→List Tk→O} (ht:TB ts) (k:∀ s r,s.length≤4000→TB r→Gd (f s r)):Gd (S.name ts f):=by
 unfold S.name
 split
 ·exact k _ _ (tb_hd ht) (tb_tail ht)
 ·exact fun v r e=>by cases e
theorem gd_ite {c:Prop} [Decidable c] {a b:O} (h:Gd a) (k:Gd b):Gd (if c then a else b):=by
 split
 ·exact h
 ·exact k
theorem gd_ok {x:Nd} {r:List Tk} (h:Bd x) (hr:TB r):Gd (okN x r):=fun v s e=>by
 injection e with e
 injection e with e1 e2
 subst e1 e2
 exact ⟨h,hr⟩
theorem gd_row {l:List Nd} {d:Bool} {r:List Tk} (h:BdL l) (hr:TB r):Gd (some (.ok (.row l d) r)):=fun v s e=>by
 injection e with e
 injection e with e1 e2
 subst e1 e2
 exact ⟨h,hr⟩
theorem gd_no {r:List Tk}:Gd (some (.no r)):=fun v s e=>by cases e
theorem gd_number {ts:List Tk} (ht:TB ts):Gd (number ts):=by
 cases ts with
 | nil=>exact gd_no
 | cons t r=>
  have htt:=ht t List.mem_cons_self
  by_cases h2:t.kind=2
  ·obtain ⟨b1,b2⟩:=htt.2 (Or.inl h2)
   have e:number (t::r)=okN (.mk 21 [] (digits t.text 0) []) r:=by simp [number,h2,okN]
   rw [e]
   exact gd_ok (Bd.mk _ _ _ _ (by simp) (by omega) (by omega) bdL_nil) (tb_tail ht)
  ·by_cases h3:t.kind=3
   ·obtain ⟨b1,b2⟩:=htt.2 (Or.inr h3)
    have e:number (t::r)=okN (.mk 22 [] (digits t.text 0) []) r:=by simp [number,h2,h3,okN]
    rw [e]
    exact gd_ok (Bd.mk _ _ _ _ (by simp) (by omega) (by omega) bdL_nil) (tb_tail ht)
   ·have e:number (t::r)=some (.no (t::r)):=by simp [number,h2,h3]
    rw [e]
    exact gd_no
theorem sign_bd (s:List UInt8):0≤(sign s).2∧(sign s).2≤12:=by
 unfold sign
 repeat' split
 all_goals exact ⟨by decide,by decide⟩
theorem b2n_b (d:Bool):0≤b2n d∧b2n d≤1:=by cases d<;>decide
def BdG:G→Prop
 | .rowsL _ acc=>BdL acc
 | .boundL _ acc=>Bd acc
 | .postL acc=>Bd acc
 | .makeL s acc=>s.length≤4000∧BdL acc
 | .blockL acc=>BdL acc
 | .simpleL acc _=>Bd acc
 | .fieldsL s acc=>s.length≤4000∧BdL acc
 | .unitL acc=>BdL acc
 | _=>True
theorem F_bd {p:G→List Tk→O} (H:∀ g ts,BdG g→TB ts→Gd (p g ts)) (g:G) (ts:List Tk) (hg:BdG g) (ht:TB ts):Gd (F p g ts):=by
 cases g with
 | typ=>
  exact gd_ite (gd_ok (bd0 bdL_nil) (tb_tail ht)) (gd_ite (gd_ok (bd0 bdL_nil) (tb_tail ht)) (gd_ite (gd_andR (H _ _ trivial (tb_tail ht)) fun l d r hl hr=>gd_andN (H _ _ trivial hr) fun t r ht hr=>gd_ok (Bd.mk _ _ _ _ (by simp) (by have:=b2n_b d;omega) (by have:=b2n_b d;omega) (bdL_app hl (bdL_one ht))) hr) (gd_name ht fun s r hs hr=>gd_ok (bds hs bdL_nil) hr)))
 | rows what=>exact gd_must ht fun r hr=>gd_ite (gd_row bdL_nil (tb_tail hr)) (H (.rowsL what []) r bdL_nil hr)
 | rowsL what acc=>
  exact gd_ite (gd_must (tb_tail ht) fun r hr=>gd_row hg hr) (gd_andN (H _ _ trivial ht) fun x r hx hr=>gd_ite (H _ _ (bdL_app hg (bdL_one hx)) (tb_tail hr)) (gd_must hr fun r hr=>gd_row (bdL_app hg (bdL_one hx)) hr))
 | item what=>exact gd_ite (H _ _ trivial ht) (gd_ite (gd_andN (H _ _ trivial ht) fun t r ht hr=>gd_name hr fun s r hs hr=>gd_ok (bds hs (bdL_one ht)) hr) (H _ _ trivial ht))
 | expr=>exact H _ _ trivial ht
 | bound least=>exact gd_ite (H _ _ trivial ht) (gd_andN (H _ _ trivial ht) fun x r hx hr=>H _ _ hx hr)
 | boundL least acc=>
  have hs:=sign_bd (hd ts)
  exact gd_ite (gd_andN (H _ _ trivial (tb_tail ht)) fun y r hy hr=>gd_ite (gd_ok (Bd.mk _ _ _ _ (by simp) (by omega) (by omega) (bdL_cons hg (bdL_one hy))) hr) (H _ _ (Bd.mk _ _ _ _ (by simp) (by omega) (by omega) (bdL_cons hg (bdL_one hy))) hr)) (gd_ok hg ht)
 | unary=>exact gd_ite (gd_andN (H _ _ trivial (tb_tail ht)) fun x r hx hr=>gd_ok (bd0 (bdL_one hx)) hr) (gd_ite (gd_andN (H _ _ trivial (tb_tail ht)) fun x r hx hr=>gd_ok (bd0 (bdL_one hx)) hr) (gd_andN (H _ _ trivial ht) fun x r hx hr=>H _ _ hx hr))
 | postL acc=>exact gd_ite (gd_name (tb_tail ht) fun s r hs hr=>H _ _ (bds hs (bdL_one hg)) hr) (gd_ite (gd_andR (H _ _ trivial ht) fun l d r hl hr=>H _ _ (bd0 (bdL_cons hg hl)) hr) (gd_ok hg ht))
 | first=>
  refine gd_ite (H _ _ trivial ht) (gd_ite (gd_name (tb_tail ht) fun s r hs hr=>gd_ok (bds hs bdL_nil) hr) (gd_ite (gd_ok (bd0 bdL_nil) (tb_tail ht)) (gd_ite ?_ (gd_ite ?_ (gd_ite ?_ (gd_ite (gd_ite (gd_ite (gd_ok (bds (tb_hd ht) bdL_nil) (tb_tail (tb_tail (tb_tail ht)))) (H _ _ ⟨tb_hd ht,bdL_nil⟩ (tb_tail (tb_tail ht)))) (gd_ok (bds (tb_hd ht) bdL_nil) (tb_tail ht))) (gd_number ht)))))))
  all_goals exact gd_andN (H _ _ trivial (tb_tail ht)) fun x r hx hr=>gd_ok (bd0 (bdL_one hx)) hr
 | round=>exact gd_must ht fun r hr=>gd_andN (H .expr r trivial hr) fun x r hx hr=>gd_must hr fun r hr=>gd_ok hx hr
 | makeL s acc=>exact gd_andN (H _ _ trivial ht) fun x r hx hr=>gd_ite (H _ _ ⟨hg.1,bdL_app hg.2 (bdL_one hx)⟩ (tb_tail hr)) (gd_must hr fun r hr=>gd_ok (bds hg.1 (bdL_app hg.2 (bdL_one hx))) hr)
 | block=>exact gd_must ht fun r hr=>H (.blockL []) r bdL_nil hr
 | blockL acc=>exact gd_ite (gd_ok (bd0 hg) (tb_tail ht)) (gd_andN (H _ _ trivial ht) fun x r hx hr=>H _ _ (bdL_app hg (bdL_one hx)) hr)
 | stat=>
  refine gd_ite ?_ (gd_ite ?_ (gd_ite ?_ (gd_ite ?_ (gd_ite ?_ ?_))))
  ·exact gd_andN (H _ _ trivial (tb_tail ht)) fun c r hc hr=>gd_andN (H _ _ trivial hr) fun x r hx hr=>gd_ite (gd_andN (H _ _ trivial (tb_tail hr)) fun o r ho hr=>gd_ok (bd0 (bdL_cons hc (bdL_cons hx (bdL_one ho)))) hr) (gd_ok (bd0 (bdL_cons hc (bdL_one hx))) hr)
  ·exact gd_andN (H _ _ trivial (tb_tail ht)) fun c r hc hr=>gd_andN (H _ _ trivial hr) fun x r hx hr=>gd_ok (bd0 (bdL_cons hc (bdL_one hx))) hr
  ·exact gd_andN (H _ _ trivial (tb_tail ht)) fun x r hx hr=>gd_must hr fun r hr=>gd_ok (bd0 (bdL_one hx)) hr
  ·exact gd_andN (H _ _ trivial (tb_tail ht)) fun x r hx hr=>gd_must hr fun r hr=>gd_ok (bd0 (bdL_one hx)) hr
  ·exact gd_andN (H _ _ trivial ht) fun t r htt hr=>gd_name hr fun s r hs hr=>gd_must hr fun r hr=>gd_andN (H _ _ trivial hr) fun x r hx hr=>gd_must hr fun r hr=>gd_ok (bds hs (bdL_cons htt (bdL_one hx))) hr
  ·exact gd_name ht fun s r hs hr=>gd_andN (H _ _ (bds hs bdL_nil) hr) fun x r hx hr=>gd_must hr fun r hr=>gd_ok hx hr
 | simpleL acc calls=>
  refine gd_ite (gd_name (tb_tail ht) fun s r hs hr=>H _ _ (bds hs (bdL_one hg)) hr) (gd_ite (gd_andR (H _ _ trivial ht) fun l d r hl hr=>H _ _ (bd0 (bdL_cons hg hl)) hr) (gd_ite (gd_must ht fun r hr=>gd_andN (H _ _ trivial hr) fun x r hx hr=>gd_ok (bd0 (bdL_cons hg (bdL_one hx))) hr) ?_))
  obtain ⟨k,a,v,l⟩:=acc
  exact gd_ite (gd_ok (bd0 (bdL_one hg)) ht) gd_no
 | fieldsL s acc=>
  exact gd_andN (H _ _ trivial ht) fun t r htt hr=>gd_name hr fun f r hf hr=>gd_must hr fun r hr=>gd_ite (gd_ok (bds hg.1 (bdL_app hg.2 (bdL_one (bds hf (bdL_one htt))))) (tb_tail hr)) (H _ _ ⟨hg.1,bdL_app hg.2 (bdL_one (bds hf (bdL_one htt)))⟩ hr)
 | decl=>
  refine gd_ite (gd_name (tb_tail ht) fun s r hs hr=>gd_must hr fun r hr=>H _ _ ⟨hs,bdL_nil⟩ hr) (gd_ite ?_ ?_)
  ·exact gd_andN (H _ _ trivial (tb_tail ht)) fun t r htt hr=>gd_name hr fun s r hs hr=>gd_ite (gd_andR (H _ _ trivial hr) fun l d r hl hr=>gd_must hr fun r hr=>gd_ok (Bd.mk _ _ _ _ hs (by have:=b2n_b d;omega) (by have:=b2n_b d;omega) (bdL_app hl (bdL_one htt))) hr) (gd_must hr fun r hr=>gd_ok (bds hs (bdL_one htt)) hr)
  ·have ht':TB (if hd ts=sSTATIC then ts.tail else ts):=by split;exact tb_tail ht;exact ht
   have hb:=b2n_b (decide (hd ts=sSTATIC))
   refine gd_andN (H _ _ trivial ht') fun t r htt hr=>gd_name hr fun s r hs hr=>gd_ite (gd_andR (H _ _ trivial hr) fun l d r hl hr=>gd_andN (H _ _ trivial hr) fun x r hx hr=>gd_ok (Bd.mk _ _ _ _ hs (by have:=b2n_b d;omega) (by have:=b2n_b d;omega) (bdL_app (bdL_app hl (bdL_one htt)) (bdL_one hx))) hr) (gd_must hr fun r hr=>?_)
   have hr':TB (if hd r=sMINUS then r.tail else r):=by split;exact tb_tail hr;exact hr
   refine gd_andN (gd_number hr') fun k r' hk hr''=>?_
   obtain ⟨kk,x,v,q⟩:=k
   cases hk with
   | mk _ _ _ _ b1 b2 b3 b4=>exact gd_must hr'' fun r3 hr3=>gd_ok (Bd.mk _ _ _ _ hs (by omega) (by omega) (bdL_cons htt (bdL_one (Bd.mk _ _ _ _ b1 (by split<;>omega) (by split<;>omega) b4)))) hr3
 | unitL acc=>
  cases ts with
  | nil=>exact gd_ok (bd0 hg) ht
  | cons t r=>exact gd_andN (H _ _ trivial ht) fun d r hd hr=>H _ _ (bdL_app hg (bdL_one hd)) hr
theorem P_bd:∀ n g ts,BdG g→TB ts→Gd (P n g ts)
 | 0,_,_,_,_=>fun v r e=>by cases e
 | n+1,g,ts,hg,ht=>F_bd (P_bd n) g ts hg ht
theorem R_bd {ts:List Tk} {n:Nd} {r:List Tk} (ht:TB ts) (h:R (.unitL []) ts (.ok (.nd n) r)):Bd n:=by
 obtain ⟨k,e⟩:=h
 exact (P_bd k (.unitL []) ts bdL_nil ht _ _ e).1
theorem NdV.toO {w:World} {A:Nat→Prop} {n:Nd} {v:Value} (h:NdV w A n v) (hb:Bd n):T.NdO w n v:=by
 induction h with
 | leaf kind text num ka kc hk=>
  cases hb with
  | mk _ _ _ _ b1 b2 b3 b4=>exact T.NdO.mk kind text num [] ka kc (fun _ _=>undef) (by omega) (by omega) (by omega) (by simp) hk (fun h=>absurd rfl h) (fun j hj=>by simp at hj)
 | full kind text num kids g kc c hne h1 h2 hA hc hs ih=>
  cases hb with
  | mk _ _ _ _ b1 b2 b3 b4=>exact T.NdO.mk kind text num kids (some ⟨g,0,none⟩) kc c (by omega) (by omega) (by omega) h1 h2 (fun _=>⟨g,0,rfl,fun j i hj hi=>by rw [Nat.zero_add];exact hc j i hj hi⟩) (fun j hj=>ih j hj (b4 _ (List.getElem_mem hj)))
end Go.Proofs.YthcfianhdkolhaaGreatDoor.Y
namespace Go.Proofs.YthcfianhdkolhaaGreatDoor.Y
open Go.RowKit Go.Proofs.YthcfianhdkolhaaGreatDoor.S
open Go.Proofs.YthcfianhdkolhaaGreatDoor.X (Tok toks scan raw rawLen Fine scan_fine fine_len rowC rowCode rowText isL mostW mostL rowEnd look Has row_facts dig_ins int_val scan_bad)
set_option linter.unusedVariables false
set_option linter.unusedSimpArgs false
theorem row_all {x most:ByteArray} (hc:rowC x most=0):S.AllD x.data.toList:=by
 obtain ⟨s,rfl⟩:∃ s,x=X.str s:=⟨x.data.toList,rfl⟩
 have es:(X.str s).data.toList=s:=by simp [X.str]
 rw [es]
 unfold rowC at hc
 split at hc
 ·cases hc
 rename_i c1
 intro c hcm
 obtain ⟨j,hj,rfl⟩:=List.mem_iff_getElem.1 hcm
 simp only [Bool.not_eq_true',Bool.not_eq_false] at c1
 have:=(List.all_eq_true.1 c1) j (List.mem_range.2 hj)
 rw [at_list hj,dig_same] at this
 unfold S.digB at this
 simp at this
 exact this
theorem val_same:∀ (s:List UInt8) (a:Nat),X.valN s a=S.valN s a
 | [],a=>rfl
 | c::r,a=>by
  show X.valN r _=S.valN r _
  exact val_same r _
theorem num_fit {x:ByteArray} (ha:S.AllD x.data.toList) (h1:1≤x.size) (hb:digits x.data.toList 0≤9223372036854775807):(∃ c r,x.data.toList=c::r∧48≤c.toNat∧c.toNat≤57)∧Lib.parseIntB 64 x.data.toList=.ok (digits x.data.toList 0):=by
 have hne:x.data.toList≠[]:=fun e=>by
  have h2:x.data.toList.length=x.size:=rfl
  rw [e] at h2
  simp at h2
  omega
 have hv:=digits_val x.data.toList 0 ha
 have hv':digits x.data.toList 0=(S.valN x.data.toList 0:Int):=hv
 refine ⟨?_,?_⟩
 ·cases hx:x.data.toList with
  | nil=>exact absurd hx hne
  | cons c r=>exact ⟨c,r,rfl,ha c (by rw [hx];exact List.mem_cons_self)⟩
 ·have h63:(2:Nat) ^ (64 - 1)=9223372036854775808:=by decide
  rw [int_val 64 (by omega) x.data.toList ha hne,val_same,hv',if_neg (by rw [hv'] at hb;omega)]
theorem tok_fit {kind:Int} {text:ByteArray} (h:X.Good (raw kind text) kind text) (h1:1≤(raw kind text).size) (hk:kind=2∨kind=3):S.AllD text.data.toList∧1≤text.size:=by
 obtain ⟨e,_⟩:=h _ _ (has_self _)
 generalize raw kind text=x at *
 unfold X.look at e
 split at e
 ·injection e with e1 e2 e3 e4
  subst e2
  simp at hk
 rename_i hl
 split at e
 ·rename_i hd
  obtain ⟨f1,f2,f3,f4⟩:=row_facts (t:=x) (i:=0) (by omega) (dig_ins hd)
  generalize x.extract 0 (rowEnd x 0)=row at *
  injection e with e1 e2 e3 e4
  cases hL:X.isL row with
  | false=>
   have er:rowText row=row:=by unfold rowText;rw [hL];rfl
   rw [er] at e3
   subst e3
   have hc:rowC row mostW=0:=by unfold rowCode at e1;rw [er,hL] at e1;exact e1
   exact ⟨row_all hc,f2⟩
  | true=>
   have hc:rowC (rowText row) mostL=0:=by unfold rowCode at e1;rw [hL] at e1;exact e1
   have hsz:1≤(rowText row).size:=by
    have h2:2≤row.size:=by
     by_cases q:row.size=1
     ·unfold X.isL at hL
      rw [q] at hL
      simp only [Nat.sub_self,decide_eq_true_eq] at hL
      rw [f3] at hL
      rw [hL] at hd
      exact absurd hd (by decide)
     ·omega
    unfold rowText
    rw [hL,if_pos rfl,ByteArray.size_extract]
    omega
   rw [← e3]
   exact ⟨row_all hc,hsz⟩
 ·injection e with e1 e2 e3 e4
  subst e2
  simp at hk
theorem raw_le (kind:Int) (text:ByteArray):text.size≤(raw kind text).size:=by
 unfold raw
 split
 ·rw [ByteArray.size_append];omega
 ·exact Nat.le_refl _
theorem rawLen_mem {l:List Tok} {k:Tok} (h:k∈l):(raw k.kind k.text).size≤rawLen l:=by
 induction l with
 | nil=>simp at h
 | cons x r ih=>
  have e:rawLen (x::r)=(raw x.kind x.text).size+rawLen r:=by simp [rawLen]
  rcases List.mem_cons.1 h with rfl|h
  ·omega
  ·have:=ih h
   omega
theorem scan_short {t:ByteArray} (hc:(scan t).2.1=0):t.size≤4000:=by
 unfold scan at hc
 split at hc
 ·cases hc
 ·omega
theorem scan_fits {t:ByteArray} (hc:(scan t).2.1=0):Fits (scan t).1∧(scan t).1.length≤4000∧TB (tk (scan t).1):=by
 obtain ⟨h1,h2⟩:=scan_fine t hc
 have h4:=scan_short hc
 have h5:=fine_len h1
 obtain ⟨hw,_⟩:=scanned hc
 have hnum:∀ k,k∈(scan t).1→(k.kind=2∨k.kind=3)→0≤digits k.text.data.toList 0∧digits k.text.data.toList 0≤9223372036854775807:=fun k hk hkk=>by
  have:=hw ⟨k.kind,k.text.data.toList⟩ (List.mem_map.2 ⟨k,hk,rfl⟩)
  rcases hkk with e|e
  ·have:=this.1 e
   exact ⟨this.1,Int.le_trans this.2.1 (by decide)⟩
  ·have:=this.2 e
   exact ⟨this.1,this.2.1⟩
 have hsz:∀ k,k∈(scan t).1→k.text.size≤4000:=fun k hk=>by
  have:=raw_le k.kind k.text
  have:=rawLen_mem hk
  omega
 refine ⟨fun k hk=>⟨hsz k hk,fun hkk=>?_⟩,by omega,fun x hx=>?_⟩
 ·obtain ⟨a1,a2⟩:=tok_fit (h1 k hk).1 (h1 k hk).2 hkk
  exact num_fit a1 a2 (hnum k hk hkk).2
 ·obtain ⟨k,hk,rfl⟩:=List.mem_map.1 hx
  exact ⟨hsz k hk,fun hkk=>hnum k hk hkk⟩
theorem toks_at:∀ (l:List Tok) (j:Nat) (hj:j<l.length),(toks l)[j*3]?=some (.int .i64 l[j].kind)∧(toks l)[j*3+1]?=some (.string l[j].text)∧(toks l)[j*3+2]?=some (.int .i64 l[j].at_)
 | [],j,hj=>by simp at hj
 | k::r,0,_=>⟨rfl,rfl,rfl⟩
 | k::r,j+1,hj=>by
  have ih:=toks_at r j (by simpa using hj)
  have e:∀ o,(toks (k::r))[(j+1)*3+o]?=(toks r)[j*3+o]?:=fun o=>by
   rw [show (j+1)*3+o=(j*3+o)+3 by omega]
   rfl
  exact ⟨(e 0).trans ih.1,(e 1).trans ih.2.1,(e 2).trans ih.2.2⟩
theorem tok_row {w:World} {base:Nat} {v:Value} {l:List Tok} (h:w.ownsRow base 44 3 v l.length (toks l)) (hpos:0<w.heap.size):∃ a c g,v=.slice a l.length c∧l.length≤c∧c≤9223372036854775807∧(l≠[]→a=some ⟨g,0,none⟩)∧TokAt w g 0 l∧g<w.heap.size:=by
 rcases h.2 with ⟨rfl,hl⟩|⟨g,cap,cur,rfl,hb,hh,hn,hm,hs,ht⟩
 ·obtain rfl:=List.eq_nil_of_length_eq_zero hl
  exact ⟨none,0,0,rfl,by simp,by omega,fun h=>absurd rfl h,fun j hj=>by simp at hj,hpos⟩
 ·refine ⟨some ⟨g,0,none⟩,cap,g,rfl,hn,hm,fun _=>rfl,fun j hj=>?_,(Array.getElem?_eq_some_iff.1 hh).1⟩
  have hc:∀ k,k<l.length*3→w.cell? ⟨g,k,none⟩=(toks l)[k]?:=fun k hk=>by
   rw [← ht,List.getElem?_take_of_lt hk,Array.getElem?_toList]
   simp [World.cell?,hh]
  obtain ⟨q0,q1,q2⟩:=toks_at l j hj
  rw [Nat.zero_add]
  exact ⟨(hc _ (by omega)).trans q0,(hc _ (by omega)).trans q1,(hc _ (by omega)).trans q2⟩
end Go.Proofs.YthcfianhdkolhaaGreatDoor.Y
