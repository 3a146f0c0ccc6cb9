/- PcA PcB PcC LaidZ PdA -/
import Derived.Test.YthcfianhdkolhaaGreatDoorSynBridge
import Derived.Test.YthcfianhdkolhaaGreatDoorPbZ
import Derived.Test.YthcfianhdkolhaaGreatDoorXPScan
import Derived.Test.YthcfianhdkolhaaGreatDoorSign
import Derived.Test.YthcfianhdkolhaaGreatDoorRfA
import Derived.Test.YthcfianhdkolhaaGreatDoorLaidP
import Derived.Test.YthcfianhdkolhaaGreatDoorPbA
namespace Go.Proofs.YthcfianhdkolhaaGreatDoor.Y
open Go.RowKit Go.Proofs.YthcfianhdkolhaaGreatDoor.S
set_option linter.unusedVariables false
set_option linter.unusedSimpArgs false
inductive Bd:Nd→Prop
 | mk (k:Int) (t:List UInt8) (v:Int) (l:List Nd):t.length≤4000→-9223372036854775807≤v→v≤9223372036854775807→(∀ x,x∈l→Bd x)→Bd (.mk k t v l)
def BdL (l:List Nd):Prop:=∀ x,x∈l→Bd x
def BdV:V→Prop
 | .nd x=>Bd x
 | .row l d=>BdL l
def TB (ts:List Tk):Prop:=∀ t,t∈ts→t.text.length≤4000∧((t.kind=2∨t.kind=3)→0≤digits t.text 0∧digits t.text 0≤9223372036854775807)
def Gd (o:O):Prop:=∀ v r,o=some (.ok v r)→BdV v∧TB r
theorem bdL_nil:BdL []:=fun x h=>by simp at h
theorem bdL_one {x:Nd} (h:Bd x):BdL [x]:=fun y hy=>by simp at hy;rw [hy];exact h
theorem bdL_cons {x:Nd} {l:List Nd} (h:Bd x) (k:BdL l):BdL (x::l):=fun y hy=>by
 rcases List.mem_cons.1 hy with rfl|hy
 ·exact h
 exact k y hy
theorem bdL_app {l m:List Nd} (h:BdL l) (k:BdL m):BdL (l++m):=fun y hy=>by
 rcases List.mem_append.1 hy with hy|hy
 ·exact h y hy
 exact k y hy
theorem bd0 {k:Int} {l:List Nd} (h:BdL l):Bd (.mk k [] 0 l):=Bd.mk k [] 0 l (by simp) (by omega) (by omega) h
theorem bds {k:Int} {s:List UInt8} {l:List Nd} (hs:s.length≤4000) (h:BdL l):Bd (.mk k s 0 l):=Bd.mk k s 0 l hs (by omega) (by omega) h
theorem tb_tail {ts:List Tk} (h:TB ts):TB ts.tail:=fun t ht=>h t (List.mem_of_mem_tail ht)
theorem tb_hd {ts:List Tk} (h:TB ts):(hd ts).length≤4000:=by
 cases ts with
 | nil=>simp [hd]
 | cons t r=>
  show (Tk.txt t).length≤4000
  unfold Tk.txt
  split
  ·simp
  exact (h t List.mem_cons_self).1
theorem gd_andN {x:O} {f:Nd→List Tk→O} (h:Gd x) (k:∀ a r,Bd a→TB r→Gd (f a r)):Gd (andN x f):=fun v r e=>by
 unfold andN at e
 split at e
 ·rename_i a s
  obtain ⟨h1,h2⟩:=h (.nd a) s rfl
  exact k a s h1 h2 v r e
 ·cases e
 cases e
theorem gd_andR {x:O} {f:List Nd→Bool→List Tk→O} (h:Gd x) (k:∀ l d r,BdL l→TB r→Gd (f l d r)):Gd (andR x f):=fun v r e=>by
 unfold andR at e
 split at e
 ·rename_i l d s
  obtain ⟨h1,h2⟩:=h (.row l d) s rfl
  exact k l d s h1 h2 v r e
 ·cases e
 cases e
theorem gd_must {s:List UInt8} {ts:List Tk} {f:List Tk→O} (ht:TB ts) (k:∀ r,TB r→Gd (f r)):Gd (must s ts f):=by
 unfold must
 split
 ·exact k _ (tb_tail ht)
 exact fun v r e=>by cases e
theorem gd_name {ts:List Tk} {f:List UInt8→List Tk→O} (ht:TB ts) (k:∀ s r,s.length≤4000→TB r→Gd (f s r)):Gd (S.name ts f):=by
 unfold S.name
 split
 ·exact k _ _ (tb_hd ht) (tb_tail ht)
 exact fun v r e=>by cases e
theorem gd_ite {c:Prop} [Decidable c] {a b:O} (h:Gd a) (k:Gd b):Gd (if c then a else b):=by
 split
 ·exact h
 exact k
theorem gd_ok {x:Nd} {r:List Tk} (h:Bd x) (hr:TB r):Gd (okN x r):=fun v s e=>by
 injection e with e
 injection e with e1 e2
 subst e1 e2
 exact ⟨h,hr⟩
theorem gd_row {l:List Nd} {d:Bool} {r:List Tk} (h:BdL l) (hr:TB r):Gd (some (.ok (.row l d) r)):=fun v s e=>by
 injection e with e
 injection e with e1 e2
 subst e1 e2
 exact ⟨h,hr⟩
theorem gd_no {r:List Tk}:Gd (some (.no r)):=fun v s e=>by cases e
theorem gd_number {ts:List Tk} (ht:TB ts):Gd (number ts):=by
 cases ts with
 | nil=>exact gd_no
 | cons t r=>
  have htt:=ht t List.mem_cons_self
  by_cases h2:t.kind=2
  ·obtain ⟨b1,b2⟩:=htt.2 (Or.inl h2)
   have e:number (t::r)=okN (.mk 21 [] (digits t.text 0) []) r:=by simp [number,h2,okN]
   rw [e]
   exact gd_ok (Bd.mk _ _ _ _ (by simp) (by omega) (by omega) bdL_nil) (tb_tail ht)
  by_cases h3:t.kind=3
  ·obtain ⟨b1,b2⟩:=htt.2 (Or.inr h3)
   have e:number (t::r)=okN (.mk 22 [] (digits t.text 0) []) r:=by simp [number,h2,h3,okN]
   rw [e]
   exact gd_ok (Bd.mk _ _ _ _ (by simp) (by omega) (by omega) bdL_nil) (tb_tail ht)
  have e:number (t::r)=some (.no (t::r)):=by simp [number,h2,h3]
  rw [e]
  exact gd_no
theorem sign_bd (s:List UInt8):0≤(sign s).2∧(sign s).2≤12:=by
 unfold sign
 repeat' split
 all_goals exact ⟨by decide,by decide⟩
theorem b2n_b (d:Bool):0≤b2n d∧b2n d≤1:=by cases d<;>decide
def BdG:G→Prop
 | .rowsL _ acc=>BdL acc
 | .boundL _ acc=>Bd acc
 | .postL acc=>Bd acc
 | .makeL s acc=>s.length≤4000∧BdL acc
 | .blockL acc=>BdL acc
 | .simpleL acc _=>Bd acc
 | .fieldsL s acc=>s.length≤4000∧BdL acc
 | .unitL acc=>BdL acc
 | _=>True
theorem F_bd {p:G→List Tk→O} (H:∀ g ts,BdG g→TB ts→Gd (p g ts)) (g:G) (ts:List Tk) (hg:BdG g) (ht:TB ts):Gd (F p g ts):=by
 cases g with
 | typ=>
  exact gd_ite (gd_ok (bd0 bdL_nil) (tb_tail ht)) (gd_ite (gd_ok (bd0 bdL_nil) (tb_tail ht)) (gd_ite (gd_andR (H _ _ trivial (tb_tail ht)) fun l d r hl hr=>gd_andN (H _ _ trivial hr) fun t r ht hr=>gd_ok (Bd.mk _ _ _ _ (by simp) (by have:=b2n_b d;omega) (by have:=b2n_b d;omega) (bdL_app hl (bdL_one ht))) hr) (gd_name ht fun s r hs hr=>gd_ok (bds hs bdL_nil) hr)))
 | rows what=>exact gd_must ht fun r hr=>gd_ite (gd_row bdL_nil (tb_tail hr)) (H (.rowsL what []) r bdL_nil hr)
 | rowsL what acc=>
  exact gd_ite (gd_must (tb_tail ht) fun r hr=>gd_row hg hr) (gd_andN (H _ _ trivial ht) fun x r hx hr=>gd_ite (H _ _ (bdL_app hg (bdL_one hx)) (tb_tail hr)) (gd_must hr fun r hr=>gd_row (bdL_app hg (bdL_one hx)) hr))
 | item what=>exact gd_ite (H _ _ trivial ht) (gd_ite (gd_andN (H _ _ trivial ht) fun t r ht hr=>gd_name hr fun s r hs hr=>gd_ok (bds hs (bdL_one ht)) hr) (H _ _ trivial ht))
 | expr=>exact H _ _ trivial ht
 | bound least=>exact gd_ite (H _ _ trivial ht) (gd_andN (H _ _ trivial ht) fun x r hx hr=>H _ _ hx hr)
 | boundL least acc=>
  have hs:=sign_bd (hd ts)
  exact gd_ite (gd_andN (H _ _ trivial (tb_tail ht)) fun y r hy hr=>gd_ite (gd_ok (Bd.mk _ _ _ _ (by simp) (by omega) (by omega) (bdL_cons hg (bdL_one hy))) hr) (H _ _ (Bd.mk _ _ _ _ (by simp) (by omega) (by omega) (bdL_cons hg (bdL_one hy))) hr)) (gd_ok hg ht)
 | unary=>exact gd_ite (gd_andN (H _ _ trivial (tb_tail ht)) fun x r hx hr=>gd_ok (bd0 (bdL_one hx)) hr) (gd_ite (gd_andN (H _ _ trivial (tb_tail ht)) fun x r hx hr=>gd_ok (bd0 (bdL_one hx)) hr) (gd_andN (H _ _ trivial ht) fun x r hx hr=>H _ _ hx hr))
 | postL acc=>exact gd_ite (gd_name (tb_tail ht) fun s r hs hr=>H _ _ (bds hs (bdL_one hg)) hr) (gd_ite (gd_andR (H _ _ trivial ht) fun l d r hl hr=>H _ _ (bd0 (bdL_cons hg hl)) hr) (gd_ok hg ht))
 | first=>
  refine gd_ite (H _ _ trivial ht) (gd_ite (gd_name (tb_tail ht) fun s r hs hr=>gd_ok (bds hs bdL_nil) hr) (gd_ite (gd_ok (bd0 bdL_nil) (tb_tail ht)) (gd_ite ?_ (gd_ite ?_ (gd_ite ?_ (gd_ite (gd_ite (gd_ite (gd_ok (bds (tb_hd ht) bdL_nil) (tb_tail (tb_tail (tb_tail ht)))) (H _ _ ⟨tb_hd ht,bdL_nil⟩ (tb_tail (tb_tail ht)))) (gd_ok (bds (tb_hd ht) bdL_nil) (tb_tail ht))) (gd_number ht)))))))
  all_goals exact gd_andN (H _ _ trivial (tb_tail ht)) fun x r hx hr=>gd_ok (bd0 (bdL_one hx)) hr
 | round=>exact gd_must ht fun r hr=>gd_andN (H .expr r trivial hr) fun x r hx hr=>gd_must hr fun r hr=>gd_ok hx hr
 | makeL s acc=>exact gd_andN (H _ _ trivial ht) fun x r hx hr=>gd_ite (H _ _ ⟨hg.1,bdL_app hg.2 (bdL_one hx)⟩ (tb_tail hr)) (gd_must hr fun r hr=>gd_ok (bds hg.1 (bdL_app hg.2 (bdL_one hx))) hr)
 | block=>exact gd_must ht fun r hr=>H (.blockL []) r bdL_nil hr
 | blockL acc=>exact gd_ite (gd_ok (bd0 hg) (tb_tail ht)) (gd_andN (H _ _ trivial ht) fun x r hx hr=>H _ _ (bdL_app hg (bdL_one hx)) hr)
 | stat=>
  refine gd_ite ?_ (gd_ite ?_ (gd_ite ?_ (gd_ite ?_ (gd_ite ?_ ?_))))
  ·exact gd_andN (H _ _ trivial (tb_tail ht)) fun c r hc hr=>gd_andN (H _ _ trivial hr) fun x r hx hr=>gd_ite (gd_andN (H _ _ trivial (tb_tail hr)) fun o r ho hr=>gd_ok (bd0 (bdL_cons hc (bdL_cons hx (bdL_one ho)))) hr) (gd_ok (bd0 (bdL_cons hc (bdL_one hx))) hr)
  ·exact gd_andN (H _ _ trivial (tb_tail ht)) fun c r hc hr=>gd_andN (H _ _ trivial hr) fun x r hx hr=>gd_ok (bd0 (bdL_cons hc (bdL_one hx))) hr
  ·exact gd_andN (H _ _ trivial (tb_tail ht)) fun x r hx hr=>gd_must hr fun r hr=>gd_ok (bd0 (bdL_one hx)) hr
  ·exact gd_andN (H _ _ trivial (tb_tail ht)) fun x r hx hr=>gd_must hr fun r hr=>gd_ok (bd0 (bdL_one hx)) hr
  ·exact gd_andN (H _ _ trivial ht) fun t r htt hr=>gd_name hr fun s r hs hr=>gd_must hr fun r hr=>gd_andN (H _ _ trivial hr) fun x r hx hr=>gd_must hr fun r hr=>gd_ok (bds hs (bdL_cons htt (bdL_one hx))) hr
  exact gd_name ht fun s r hs hr=>gd_andN (H _ _ (bds hs bdL_nil) hr) fun x r hx hr=>gd_must hr fun r hr=>gd_ok hx hr
 | simpleL acc calls=>
  refine gd_ite (gd_name (tb_tail ht) fun s r hs hr=>H _ _ (bds hs (bdL_one hg)) hr) (gd_ite (gd_andR (H _ _ trivial ht) fun l d r hl hr=>H _ _ (bd0 (bdL_cons hg hl)) hr) (gd_ite (gd_must ht fun r hr=>gd_andN (H _ _ trivial hr) fun x r hx hr=>gd_ok (bd0 (bdL_cons hg (bdL_one hx))) hr) ?_))
  obtain ⟨k,a,v,l⟩:=acc
  exact gd_ite (gd_ok (bd0 (bdL_one hg)) ht) gd_no
 | fieldsL s acc=>
  exact gd_andN (H _ _ trivial ht) fun t r htt hr=>gd_name hr fun f r hf hr=>gd_must hr fun r hr=>gd_ite (gd_ok (bds hg.1 (bdL_app hg.2 (bdL_one (bds hf (bdL_one htt))))) (tb_tail hr)) (H _ _ ⟨hg.1,bdL_app hg.2 (bdL_one (bds hf (bdL_one htt)))⟩ hr)
 | decl=>
  refine gd_ite (gd_name (tb_tail ht) fun s r hs hr=>gd_must hr fun r hr=>H _ _ ⟨hs,bdL_nil⟩ hr) (gd_ite ?_ ?_)
  ·exact gd_andN (H _ _ trivial (tb_tail ht)) fun t r htt hr=>gd_name hr fun s r hs hr=>gd_ite (gd_andR (H _ _ trivial hr) fun l d r hl hr=>gd_must hr fun r hr=>gd_ok (Bd.mk _ _ _ _ hs (by have:=b2n_b d;omega) (by have:=b2n_b d;omega) (bdL_app hl (bdL_one htt))) hr) (gd_must hr fun r hr=>gd_ok (bds hs (bdL_one htt)) hr)
  have ht':TB (if hd ts=sSTATIC then ts.tail else ts):=by split;exact tb_tail ht;exact ht
  have hb:=b2n_b (decide (hd ts=sSTATIC))
  refine gd_andN (H _ _ trivial ht') fun t r htt hr=>gd_name hr fun s r hs hr=>gd_ite (gd_andR (H _ _ trivial hr) fun l d r hl hr=>gd_andN (H _ _ trivial hr) fun x r hx hr=>gd_ok (Bd.mk _ _ _ _ hs (by have:=b2n_b d;omega) (by have:=b2n_b d;omega) (bdL_app (bdL_app hl (bdL_one htt)) (bdL_one hx))) hr) (gd_must hr fun r hr=>?_)
  have hr':TB (if hd r=sMINUS then r.tail else r):=by split;exact tb_tail hr;exact hr
  refine gd_andN (gd_number hr') fun k r' hk hr''=>?_
  obtain ⟨kk,x,v,q⟩:=k
  cases hk with
  | mk _ _ _ _ b1 b2 b3 b4=>exact gd_must hr'' fun r3 hr3=>gd_ok (Bd.mk _ _ _ _ hs (by omega) (by omega) (bdL_cons htt (bdL_one (Bd.mk _ _ _ _ b1 (by split<;>omega) (by split<;>omega) b4)))) hr3
 | unitL acc=>
  cases ts with
  | nil=>exact gd_ok (bd0 hg) ht
  | cons t r=>exact gd_andN (H _ _ trivial ht) fun d r hd hr=>H _ _ (bdL_app hg (bdL_one hd)) hr
theorem P_bd:∀ n g ts,BdG g→TB ts→Gd (P n g ts)
 | 0,_,_,_,_=>fun v r e=>by cases e
 | n+1,g,ts,hg,ht=>F_bd (P_bd n) g ts hg ht
theorem R_bd {ts:List Tk} {n:Nd} {r:List Tk} (ht:TB ts) (h:R (.unitL []) ts (.ok (.nd n) r)):Bd n:=by
 obtain ⟨k,e⟩:=h
 exact (P_bd k (.unitL []) ts bdL_nil ht _ _ e).1
theorem NdV.toO {w:World} {A:Nat→Prop} {n:Nd} {v:Value} (h:NdV w A n v) (hb:Bd n):T.NdO w n v:=by
 induction h with
 | leaf kind text num ka kc hk=>
  cases hb with
  | mk _ _ _ _ b1 b2 b3 b4=>exact T.NdO.mk kind text num [] ka kc (fun _ _=>undef) (by omega) (by omega) (by omega) (by simp) hk (fun h=>absurd rfl h) (fun j hj=>by simp at hj)
 | full kind text num kids g kc c hne h1 h2 hA hc hs ih=>
  cases hb with
  | mk _ _ _ _ b1 b2 b3 b4=>exact T.NdO.mk kind text num kids (some ⟨g,0,none⟩) kc c (by omega) (by omega) (by omega) h1 h2 (fun _=>⟨g,0,rfl,fun j i hj hi=>by rw [Nat.zero_add];exact hc j i hj hi⟩) (fun j hj=>ih j hj (b4 _ (List.getElem_mem hj)))
end Go.Proofs.YthcfianhdkolhaaGreatDoor.Y
namespace Go.Proofs.YthcfianhdkolhaaGreatDoor.Y
open Go.RowKit Go.Proofs.YthcfianhdkolhaaGreatDoor.S
open Go.Proofs.YthcfianhdkolhaaGreatDoor.X (Tok toks scan raw rawLen Fine scan_fine fine_len rowC rowCode rowText isL mostW mostL rowEnd look Has row_facts dig_ins int_val scan_bad)
set_option linter.unusedVariables false
set_option linter.unusedSimpArgs false
theorem row_all {x most:ByteArray} (hc:rowC x most=0):S.AllD x.data.toList:=by
 obtain ⟨s,rfl⟩:∃ s,x=X.str s:=⟨x.data.toList,rfl⟩
 have es:(X.str s).data.toList=s:=by simp [X.str]
 rw [es]
 unfold rowC at hc
 split at hc
 ·cases hc
 rename_i c1
 intro c hcm
 obtain ⟨j,hj,rfl⟩:=List.mem_iff_getElem.1 hcm
 simp only [Bool.not_eq_true',Bool.not_eq_false] at c1
 have:=(List.all_eq_true.1 c1) j (List.mem_range.2 hj)
 rw [at_list hj,dig_same] at this
 unfold S.digB at this
 simp at this
 exact this
theorem val_same:∀ (s:List UInt8) (a:Nat),X.valN s a=S.valN s a
 | [],a=>rfl
 | c::r,a=>by
  show X.valN r _=S.valN r _
  exact val_same r _
theorem num_fit {x:ByteArray} (ha:S.AllD x.data.toList) (h1:1≤x.size) (hb:digits x.data.toList 0≤9223372036854775807):(∃ c r,x.data.toList=c::r∧48≤c.toNat∧c.toNat≤57)∧Lib.parseIntB 64 x.data.toList=.ok (digits x.data.toList 0):=by
 have hne:x.data.toList≠[]:=fun e=>by
  have h2:x.data.toList.length=x.size:=rfl
  rw [e] at h2
  simp at h2
  omega
 have hv:=digits_val x.data.toList 0 ha
 have hv':digits x.data.toList 0=(S.valN x.data.toList 0:Int):=hv
 refine ⟨?_,?_⟩
 ·cases hx:x.data.toList with
  | nil=>exact absurd hx hne
  | cons c r=>exact ⟨c,r,rfl,ha c (by rw [hx];exact List.mem_cons_self)⟩
 have h63:(2:Nat) ^ (64 - 1)=9223372036854775808:=by decide
 rw [int_val 64 (by omega) x.data.toList ha hne,val_same,hv',if_neg (by rw [hv'] at hb;omega)]
theorem tok_fit {kind:Int} {text:ByteArray} (h:X.Good (raw kind text) kind text) (h1:1≤(raw kind text).size) (hk:kind=2∨kind=3):S.AllD text.data.toList∧1≤text.size:=by
 obtain ⟨e,_⟩:=h _ _ (has_self _)
 generalize raw kind text=x at *
 unfold X.look at e
 split at e
 ·injection e with e1 e2 e3 e4
  subst e2
  simp at hk
 rename_i hl
 split at e
 ·rename_i hd
  obtain ⟨f1,f2,f3,f4⟩:=row_facts (t:=x) (i:=0) (by omega) (dig_ins hd)
  generalize x.extract 0 (rowEnd x 0)=row at *
  injection e with e1 e2 e3 e4
  cases hL:X.isL row with
  | false=>
   have er:rowText row=row:=by unfold rowText;rw [hL];rfl
   rw [er] at e3
   subst e3
   have hc:rowC row mostW=0:=by unfold rowCode at e1;rw [er,hL] at e1;exact e1
   exact ⟨row_all hc,f2⟩
  | true=>
   have hc:rowC (rowText row) mostL=0:=by unfold rowCode at e1;rw [hL] at e1;exact e1
   have hsz:1≤(rowText row).size:=by
    have h2:2≤row.size:=by
     by_cases q:row.size=1
     ·unfold X.isL at hL
      rw [q] at hL
      simp only [Nat.sub_self,decide_eq_true_eq] at hL
      rw [f3] at hL
      rw [hL] at hd
      exact absurd hd (by decide)
     omega
    unfold rowText
    rw [hL,if_pos rfl,ByteArray.size_extract]
    omega
   rw [← e3]
   exact ⟨row_all hc,hsz⟩
 injection e with e1 e2 e3 e4
 subst e2
 simp at hk
theorem raw_le (kind:Int) (text:ByteArray):text.size≤(raw kind text).size:=by
 unfold raw
 split
 ·rw [ByteArray.size_append];omega
 exact Nat.le_refl _
theorem rawLen_mem {l:List Tok} {k:Tok} (h:k∈l):(raw k.kind k.text).size≤rawLen l:=by
 induction l with
 | nil=>simp at h
 | cons x r ih=>
  have e:rawLen (x::r)=(raw x.kind x.text).size+rawLen r:=by simp [rawLen]
  rcases List.mem_cons.1 h with rfl|h
  ·omega
  have:=ih h
  omega
theorem scan_short {t:ByteArray} (hc:(scan t).2.1=0):t.size≤4000:=by
 unfold scan at hc
 split at hc
 ·cases hc
 omega
theorem scan_fits {t:ByteArray} (hc:(scan t).2.1=0):Fits (scan t).1∧(scan t).1.length≤4000∧TB (tk (scan t).1):=by
 obtain ⟨h1,h2⟩:=scan_fine t hc
 have h4:=scan_short hc
 have h5:=fine_len h1
 obtain ⟨hw,_⟩:=scanned hc
 have hnum:∀ k,k∈(scan t).1→(k.kind=2∨k.kind=3)→0≤digits k.text.data.toList 0∧digits k.text.data.toList 0≤9223372036854775807:=fun k hk hkk=>by
  have:=hw ⟨k.kind,k.text.data.toList⟩ (List.mem_map.2 ⟨k,hk,rfl⟩)
  rcases hkk with e|e
  ·have:=this.1 e
   exact ⟨this.1,Int.le_trans this.2.1 (by decide)⟩
  have:=this.2 e
  exact ⟨this.1,this.2.1⟩
 have hsz:∀ k,k∈(scan t).1→k.text.size≤4000:=fun k hk=>by
  have:=raw_le k.kind k.text
  have:=rawLen_mem hk
  omega
 refine ⟨fun k hk=>⟨hsz k hk,fun hkk=>?_⟩,by omega,fun x hx=>?_⟩
 ·obtain ⟨a1,a2⟩:=tok_fit (h1 k hk).1 (h1 k hk).2 hkk
  exact num_fit a1 a2 (hnum k hk hkk).2
 obtain ⟨k,hk,rfl⟩:=List.mem_map.1 hx
 exact ⟨hsz k hk,fun hkk=>hnum k hk hkk⟩
theorem toks_at:∀ (l:List Tok) (j:Nat) (hj:j<l.length),(toks l)[j*3]?=some (.int .i64 l[j].kind)∧(toks l)[j*3+1]?=some (.string l[j].text)∧(toks l)[j*3+2]?=some (.int .i64 l[j].at_)
 | [],j,hj=>by simp at hj
 | k::r,0,_=>⟨rfl,rfl,rfl⟩
 | k::r,j+1,hj=>by
  have ih:=toks_at r j (by simpa using hj)
  have e:∀ o,(toks (k::r))[(j+1)*3+o]?=(toks r)[j*3+o]?:=fun o=>by
   rw [show (j+1)*3+o=(j*3+o)+3 by omega]
   rfl
  exact ⟨(e 0).trans ih.1,(e 1).trans ih.2.1,(e 2).trans ih.2.2⟩
theorem tok_row {w:World} {base:Nat} {v:Value} {l:List Tok} (h:w.ownsRow base 44 3 v l.length (toks l)) (hpos:0<w.heap.size):∃ a c g,v=.slice a l.length c∧l.length≤c∧c≤9223372036854775807∧(l≠[]→a=some ⟨g,0,none⟩)∧TokAt w g 0 l∧g<w.heap.size:=by
 rcases h.2 with ⟨rfl,hl⟩|⟨g,cap,cur,rfl,hb,hh,hn,hm,hs,ht⟩
 ·obtain rfl:=List.eq_nil_of_length_eq_zero hl
  exact ⟨none,0,0,rfl,by simp,by omega,fun h=>absurd rfl h,fun j hj=>by simp at hj,hpos⟩
 refine ⟨some ⟨g,0,none⟩,cap,g,rfl,hn,hm,fun _=>rfl,fun j hj=>?_,(Array.getElem?_eq_some_iff.1 hh).1⟩
 have hc:∀ k,k<l.length*3→w.cell? ⟨g,k,none⟩=(toks l)[k]?:=fun k hk=>by
  rw [← ht,List.getElem?_take_of_lt hk,Array.getElem?_toList]
  simp [World.cell?,hh]
 obtain ⟨q0,q1,q2⟩:=toks_at l j hj
 rw [Nat.zero_add]
 exact ⟨(hc _ (by omega)).trans q0,(hc _ (by omega)).trans q1,(hc _ (by omega)).trans q2⟩
end Go.Proofs.YthcfianhdkolhaaGreatDoor.Y
namespace Go.Proofs.YthcfianhdkolhaaGreatDoor.Y
open Go.RowKit Go.Proofs.YthcfianhdkolhaaGreatDoor.T Go.Proofs.YthcfianhdkolhaaGreatDoor.S
open Go.Proofs.YthcfianhdkolhaaGreatDoor.X (Tok toks scan pscan_any)
set_option maxRecDepth 100000
set_option maxHeartbeats 2000000
set_option linter.unusedVariables false
set_option linter.unusedSimpArgs false
variable {w w' : World} {b g : Nat} {m : Value} {ts : List Tok} {t : Tok}
structure Wf (w0 w:World) (L:List Bk):Prop where
 grown:w0.grownBy w none
 blk:∀ x,x∈L→w0.heap.size≤x.1∧w.heap[x.1]?=some (.cells x.2.1 x.2.2 (0,0))
 ord:L.Pairwise (fun x y=>x.1≠y.1)
variable {w0 : World} {L : List Bk}
theorem Wf.start (w:World):Wf w w []:=⟨⟨rfl,rfl,rfl,Nat.le_refl _,fun _ _ _=>rfl⟩,fun x hx=>by simp at hx,List.Pairwise.nil⟩
theorem Wf.lt (h:Wf w0 w L):∀ x,x∈L→x.1<w.heap.size:=fun x hx=>(Array.getElem?_eq_some_iff.1 (h.blk x hx).2).1
theorem Wf.alloc' (h:Wf w0 w L) (q:Nat) (hq:w.heap.size=q) (cs:Array Value) (T:TypeId):Wf w0 (w.alloc (.cells cs T)) ((q,cs,T)::L):=by
 subst hq
 refine ⟨grown_none h.grown (grown_alloc w _),fun x hx=>?_,List.Pairwise.cons (fun x hx=>?_) h.ord⟩
 ·rcases List.mem_cons.1 hx with rfl|hx
  ·exact ⟨h.grown.size,heap_new w cs T⟩
  exact ⟨(h.blk x hx).1,(Below.heap_alloc w _ _ (h.lt x hx)).trans (h.blk x hx).2⟩
 have:=h.lt x hx
 show w.heap.size≠x.1
 omega
theorem Wf.quiet (h:Wf w0 w L) (hG:w.grownBy w' none):Wf w0 w' L:=
 ⟨grown_none h.grown hG,fun x hx=>⟨(h.blk x hx).1,(hG.block x.1 (h.lt x hx) (by simp)).trans (h.blk x hx).2⟩,h.ord⟩
theorem Wf.set (L1 L2:List Bk) {q:Nat} {cs:Array Value} {T:TypeId} (h:Wf w0 w (L1++(q,cs,T)::L2)) (i:Nat) (v:Value):Wf w0 (w.setCell ⟨q,i,none⟩ v) (L1++(q,cs.setIfInBounds i v,T)::L2):=by
 obtain ⟨p1,p2,p3,p4⟩:=pairwise_mid (c':=cs.setIfInBounds i v) (T':=T) h.ord
 have hq:=h.blk (q,cs,T) (by simp)
 refine ⟨grown_set h.grown hq.1,fun x hx=>?_,p1⟩
 rcases List.mem_append.1 hx with hx|hx
 ·have:=h.blk x (by simp [hx])
  exact ⟨this.1,(heap_setCell_other _ _ _ _ (p2 x hx)).trans this.2⟩
 rcases List.mem_cons.1 hx with rfl|hx
 ·exact ⟨hq.1,heap_setCell_same w q i _ _ _ hq.2⟩
 have:=h.blk x (by simp [hx])
 exact ⟨this.1,(heap_setCell_other _ _ _ _ (fun e=>p3 x hx e.symm)).trans this.2⟩
theorem Wf.set4 (L1 L2:List Bk) {q:Nat} {c0 c1 c2 c3:Value} {T:TypeId} (h:Wf w0 w (L1++(q,#[c0,c1,c2,c3],T)::L2)) (x0 x1 x2 x3:Value):Wf w0 ((((w.setCell ⟨q,0,none⟩ x0).setCell ⟨q,1,none⟩ x1).setCell ⟨q,2,none⟩ x2).setCell ⟨q,3,none⟩ x3) (L1++(q,#[x0,x1,x2,x3],T)::L2):=
 ((((h.set L1 L2 0 x0).set L1 L2 1 x1).set L1 L2 2 x2).set L1 L2 3 x3)
theorem Wf.given {w1:World} {n:Nd} {v:Value} (h:Wf w0 w L) (k:NdV w1 (fun k=>w.heap.size≤k) n v):NdV w1 (Av w.heap.size L) n v:=k.mono (fun k hk _=>⟨hk,fun x hx=>by have:=h.lt x hx;have hk:w.heap.size≤k:=hk;omega⟩)
theorem Wf.c0 {q:Nat} {cs:Array Value} {T:TypeId} (h:Wf w0 w ((q,cs,T)::L)):∀ o,w.cell? ⟨q,o,none⟩=cs[o]?:=cells_at (h.blk (q,cs,T) List.mem_cons_self).2
theorem Wf.f0 {q:Nat} {cs:Array Value} {T:TypeId} (h:Wf w0 w ((q,cs,T)::L)):∀ o,w.frozen? ⟨q,o,none⟩=false:=frozen_at (h.blk (q,cs,T) List.mem_cons_self).2
theorem Wf.l0 {q:Nat} {cs:Array Value} {T:TypeId} (h:Wf w0 w ((q,cs,T)::L)):q<w.heap.size:=h.lt (q,cs,T) List.mem_cons_self
theorem Wf.r00 {q:Nat} {c0 c1:Value} {T:TypeId} (h:Wf w0 w ((q,#[c0,c1],T)::L)) (v:Value):Wf w0 (w.setCell ⟨q,0,none⟩ v) ((q,#[v,c1],T)::L):=h.set [] L 0 v
theorem Wf.mr00 {q s:Nat} {c0 c1 v:Value} {T:TypeId} (h:Wf w0 (w.setCell ⟨q,0,none⟩ v) ((q,#[v,c1],T)::L)):Mv w (w.setCell ⟨q,0,none⟩ v) (Av s ((q,#[c0,c1],T)::L)) (Av s ((q,#[v,c1],T)::L)):=Mv.set [] L w v
theorem Wf.r01 {q:Nat} {c0 c1:Value} {T:TypeId} (h:Wf w0 w ((q,#[c0,c1],T)::L)) (v:Value):Wf w0 (w.setCell ⟨q,1,none⟩ v) ((q,#[c0,v],T)::L):=h.set [] L 1 v
theorem Wf.mr01 {q s:Nat} {c0 c1 v:Value} {T:TypeId} (h:Wf w0 (w.setCell ⟨q,1,none⟩ v) ((q,#[c0,v],T)::L)):Mv w (w.setCell ⟨q,1,none⟩ v) (Av s ((q,#[c0,c1],T)::L)) (Av s ((q,#[c0,v],T)::L)):=Mv.set [] L w v
theorem Wf.c1 {y0:Bk} {q:Nat} {cs:Array Value} {T:TypeId} (h:Wf w0 w (y0::(q,cs,T)::L)):∀ o,w.cell? ⟨q,o,none⟩=cs[o]?:=cells_at (h.blk (q,cs,T) (List.mem_cons_of_mem _ List.mem_cons_self)).2
theorem Wf.f1 {y0:Bk} {q:Nat} {cs:Array Value} {T:TypeId} (h:Wf w0 w (y0::(q,cs,T)::L)):∀ o,w.frozen? ⟨q,o,none⟩=false:=frozen_at (h.blk (q,cs,T) (List.mem_cons_of_mem _ List.mem_cons_self)).2
theorem Wf.l1 {y0:Bk} {q:Nat} {cs:Array Value} {T:TypeId} (h:Wf w0 w (y0::(q,cs,T)::L)):q<w.heap.size:=h.lt (q,cs,T) (List.mem_cons_of_mem _ List.mem_cons_self)
theorem Wf.r10 {y0:Bk} {q:Nat} {c0 c1:Value} {T:TypeId} (h:Wf w0 w (y0::(q,#[c0,c1],T)::L)) (v:Value):Wf w0 (w.setCell ⟨q,0,none⟩ v) (y0::(q,#[v,c1],T)::L):=h.set [y0] L 0 v
theorem Wf.r11 {y0:Bk} {q:Nat} {c0 c1:Value} {T:TypeId} (h:Wf w0 w (y0::(q,#[c0,c1],T)::L)) (v:Value):Wf w0 (w.setCell ⟨q,1,none⟩ v) (y0::(q,#[c0,v],T)::L):=h.set [y0] L 1 v
theorem Wf.c2 {y0 y1:Bk} {q:Nat} {cs:Array Value} {T:TypeId} (h:Wf w0 w (y0::y1::(q,cs,T)::L)):∀ o,w.cell? ⟨q,o,none⟩=cs[o]?:=cells_at (h.blk (q,cs,T) (List.mem_cons_of_mem _ (List.mem_cons_of_mem _ List.mem_cons_self))).2
theorem Wf.f2 {y0 y1:Bk} {q:Nat} {cs:Array Value} {T:TypeId} (h:Wf w0 w (y0::y1::(q,cs,T)::L)):∀ o,w.frozen? ⟨q,o,none⟩=false:=frozen_at (h.blk (q,cs,T) (List.mem_cons_of_mem _ (List.mem_cons_of_mem _ List.mem_cons_self))).2
theorem Wf.l2 {y0 y1:Bk} {q:Nat} {cs:Array Value} {T:TypeId} (h:Wf w0 w (y0::y1::(q,cs,T)::L)):q<w.heap.size:=h.lt (q,cs,T) (List.mem_cons_of_mem _ (List.mem_cons_of_mem _ List.mem_cons_self))
theorem Wf.s2 {y0 y1:Bk} {q:Nat} {c0 c1 c2 c3:Value} {T:TypeId} (h:Wf w0 w (y0::y1::(q,#[c0,c1,c2,c3],T)::L)) (x0 x1 x2 x3:Value):Wf w0 ((((w.setCell ⟨q,0,none⟩ x0).setCell ⟨q,1,none⟩ x1).setCell ⟨q,2,none⟩ x2).setCell ⟨q,3,none⟩ x3) (y0::y1::(q,#[x0,x1,x2,x3],T)::L):=h.set4 [y0,y1] L x0 x1 x2 x3
theorem Wf.r20 {y0 y1:Bk} {q:Nat} {c0 c1:Value} {T:TypeId} (h:Wf w0 w (y0::y1::(q,#[c0,c1],T)::L)) (v:Value):Wf w0 (w.setCell ⟨q,0,none⟩ v) (y0::y1::(q,#[v,c1],T)::L):=h.set [y0,y1] L 0 v
theorem Wf.mr20 {y0 y1:Bk} {q s:Nat} {c0 c1 v:Value} {T:TypeId} (h:Wf w0 (w.setCell ⟨q,0,none⟩ v) (y0::y1::(q,#[v,c1],T)::L)):Mv w (w.setCell ⟨q,0,none⟩ v) (Av s (y0::y1::(q,#[c0,c1],T)::L)) (Av s (y0::y1::(q,#[v,c1],T)::L)):=Mv.set [y0,y1] L w v
theorem Wf.r21 {y0 y1:Bk} {q:Nat} {c0 c1:Value} {T:TypeId} (h:Wf w0 w (y0::y1::(q,#[c0,c1],T)::L)) (v:Value):Wf w0 (w.setCell ⟨q,1,none⟩ v) (y0::y1::(q,#[c0,v],T)::L):=h.set [y0,y1] L 1 v
theorem Wf.mr21 {y0 y1:Bk} {q s:Nat} {c0 c1 v:Value} {T:TypeId} (h:Wf w0 (w.setCell ⟨q,1,none⟩ v) (y0::y1::(q,#[c0,v],T)::L)):Mv w (w.setCell ⟨q,1,none⟩ v) (Av s (y0::y1::(q,#[c0,c1],T)::L)) (Av s (y0::y1::(q,#[c0,v],T)::L)):=Mv.set [y0,y1] L w v
theorem Wf.c3 {y0 y1 y2:Bk} {q:Nat} {cs:Array Value} {T:TypeId} (h:Wf w0 w (y0::y1::y2::(q,cs,T)::L)):∀ o,w.cell? ⟨q,o,none⟩=cs[o]?:=cells_at (h.blk (q,cs,T) (List.mem_cons_of_mem _ (List.mem_cons_of_mem _ (List.mem_cons_of_mem _ List.mem_cons_self)))).2
theorem Wf.f3 {y0 y1 y2:Bk} {q:Nat} {cs:Array Value} {T:TypeId} (h:Wf w0 w (y0::y1::y2::(q,cs,T)::L)):∀ o,w.frozen? ⟨q,o,none⟩=false:=frozen_at (h.blk (q,cs,T) (List.mem_cons_of_mem _ (List.mem_cons_of_mem _ (List.mem_cons_of_mem _ List.mem_cons_self)))).2
theorem Wf.l3 {y0 y1 y2:Bk} {q:Nat} {cs:Array Value} {T:TypeId} (h:Wf w0 w (y0::y1::y2::(q,cs,T)::L)):q<w.heap.size:=h.lt (q,cs,T) (List.mem_cons_of_mem _ (List.mem_cons_of_mem _ (List.mem_cons_of_mem _ List.mem_cons_self)))
theorem Wf.s3 {y0 y1 y2:Bk} {q:Nat} {c0 c1 c2 c3:Value} {T:TypeId} (h:Wf w0 w (y0::y1::y2::(q,#[c0,c1,c2,c3],T)::L)) (x0 x1 x2 x3:Value):Wf w0 ((((w.setCell ⟨q,0,none⟩ x0).setCell ⟨q,1,none⟩ x1).setCell ⟨q,2,none⟩ x2).setCell ⟨q,3,none⟩ x3) (y0::y1::y2::(q,#[x0,x1,x2,x3],T)::L):=h.set4 [y0,y1,y2] L x0 x1 x2 x3
theorem Wf.ms3 {y0 y1 y2:Bk} {q s:Nat} {c0 c1 c2 c3 x0 x1 x2 x3:Value} {T:TypeId} (h:Wf w0 ((((w.setCell ⟨q,0,none⟩ x0).setCell ⟨q,1,none⟩ x1).setCell ⟨q,2,none⟩ x2).setCell ⟨q,3,none⟩ x3) (y0::y1::y2::(q,#[x0,x1,x2,x3],T)::L)):Mv w ((((w.setCell ⟨q,0,none⟩ x0).setCell ⟨q,1,none⟩ x1).setCell ⟨q,2,none⟩ x2).setCell ⟨q,3,none⟩ x3) (Av s (y0::y1::y2::(q,#[c0,c1,c2,c3],T)::L)) (Av s (y0::y1::y2::(q,#[x0,x1,x2,x3],T)::L)):=Mv.set4 [y0,y1,y2] L w x0 x1 x2 x3
theorem Wf.ma {q s:Nat} {cs:Array Value} {T:TypeId} (h:Wf w0 (w.alloc (.cells cs T)) ((q,cs,T)::L)) (hq:w.heap.size=q):Mv w (w.alloc (.cells cs T)) (Av s L) (Av s ((q,cs,T)::L)):=Mv.alloc' w q hq cs T s L
theorem Wf.nA {q s:Nat} {cs:Array Value} {T:TypeId} {n:Nd} {v:Value} (h:Wf w0 (w.alloc (.cells cs T)) ((q,cs,T)::L)) (k:Hid (NdV w (Av s L) n v)) (hq:w.heap.size=q:=by simp):Hid (NdV (w.alloc (.cells cs T)) (Av s ((q,cs,T)::L)) n v):=(h.ma hq).N k
theorem Wf.rA {q s:Nat} {cs:Array Value} {T:TypeId} {n:List Nd} {v:Value} (h:Wf w0 (w.alloc (.cells cs T)) ((q,cs,T)::L)) (k:Hid (RowN w (Av s L) v n)) (hq:w.heap.size=q:=by simp):Hid (RowN (w.alloc (.cells cs T)) (Av s ((q,cs,T)::L)) v n):=(h.ma hq).R k
theorem Wf.al (h:Wf w0 w L) (q:Nat) (cs:Array Value) (hq:w.heap.size=q:=by simp):Hid (Wf w0 (w.alloc (.cells cs 24)) ((q,cs,24)::L)):=h.alloc' q hq cs 24
theorem Wf.an {A:Nat→Prop} {cs:Array Value} {n:Nd} (h:Wf w0 w L) (k:Hid (NdV w A n (.agg cs))):Hid (Wf w0 (w.alloc (.cells cs 24)) ((w.heap.size,cs,24)::L)):=h.alloc' _ rfl cs 24
theorem Wf.am {A:Nat→Prop} {cs:Array Value} {n:Nd} (h:Wf w0 w L) (q:Nat) (k:Hid (NdV w A n (.agg cs))) (hq:w.heap.size=q:=by simp):Hid (Wf w0 (w.alloc (.cells cs 24)) ((q,cs,24)::L)):=h.alloc' q hq cs 24
theorem Wf.az (h:Wf w0 w L) (q:Nat) (hq:w.heap.size=q:=by simp):Hid (Wf w0 (w.alloc (.cells #[.int .i64 0,.string ⟨#[]⟩,.int .i64 0,.slice none 0 0] 24)) ((q,#[.int .i64 0,.string ⟨#[]⟩,.int .i64 0,.slice none 0 0],24)::L)):=h.alloc' q hq _ 24
def PaNo (t:ByteArray) (c a:Int):Prop:=(c≠0∧(scan t).2.1=c∧((scan t).2.2:Int)=a)∨((scan t).2.1=0∧((∃ r,r <:+ (scan t).1∧R (.unitL []) (tk (scan t).1) (.no (tk r))∧c=2∧a=atOf t.size r)∨(∃ n,R (.unitL []) (tk (scan t).1) (.ok (.nd n) [])∧fitB n=false∧c=1∧a=0)))
def PostX (w:World) (t:ByteArray) (e:Ending) (w':World):Prop:=w.grownBy w' none ∧
 ((∃ n v,(scan t).2.1=0∧R (.unitL []) (tk (scan t).1) (.ok (.nd n) [])∧fitB n=true∧e=.returned (.tuple #[v,.agg #[.int .i64 0,.int .i64 0]])∧NdV w' (fun k=>w.heap.size≤k) n v) ∨
  (∃ c a,PaNo t c a∧e=.returned (.tuple #[zNode,.agg #[.int .i64 c,.int .i64 a]])))
theorem parse_post (hX:X.Gl w) (hT:Og w) (t:ByteArray) (hm:t.size≤9223372036854775807):Calls Tryz.prog 6 #[.string t] w (PostX w t):=by
 have HW:Hid (Wf w w []):=Wf.start w
 have HX:=ħ hX
 have HT:=ħ hT
 clear hX hT
 go_enter Tryz.func6,Tryz.ntmps6
 replace HW:=HW.out.az w.heap.size
 replace HW:=ħ (HW.out.alloc' (w.heap.size+1) (by simp) #[.int .i64 0,.int .i64 0] 27)
 go_wp2_with fail
 generalize (w.alloc _).alloc _=w1 at *
 go_at_call 10
 refine (pscan_any t w1 (HX.out.below (below_grown HW.out.grown)) hm).mono ?_
 rintro e w2 ⟨l,rfl,hown,hB⟩
 obtain ⟨S,hS⟩:∃ S,S=scan t:=⟨_,rfl⟩
 rw [← hS] at hown
 rw [← hS]
 have HSc:=ħ hS
 obtain ⟨a,c,g,rfl,hlc,hc,ha,hat,hg⟩:=tok_row hown (Nat.lt_of_lt_of_le (show 0<w1.heap.size from Nat.lt_of_lt_of_le (Nat.lt_of_le_of_lt (Nat.zero_le _) HT.out.lt.2) HW.out.grown.size) hB.size)
 have HA:=ħ (And.intro hlc (And.intro hc (And.intro ha (And.intro hat hg))))
 replace HW:=ħ (HW.out.quiet (grown_below hB))
 clear hB hown hlc hc ha hat hg hS
 obtain ⟨L1,sc,sa⟩:=S
 simp only at *
 replace HW:=ħ (HW.out.alloc' w2.heap.size (by simp) #[.int .i64 sc,.int .i64 (sa:Int)] 27)
 have hc3:=HW.out.c0
 have HSZ:Hid ((w2.alloc (.cells #[.int .i64 sc,.int .i64 (sa:Int)] 27)).heap.size=w2.heap.size+1):=by simp [Hid]
 have HSB:Hid (∀ g,g<w2.heap.size→(w2.alloc (.cells #[.int .i64 sc,.int .i64 (sa:Int)] 27)).heap[g]?=w2.heap[g]?):=fun g hg=>Below.heap_alloc _ _ _ hg
 by_cases hz:sc=0
 ·have hz':(sc == 0)=true:=by simpa using hz
  have HZc:=ħ hz
  clear hz
  go_wp2_with fail
  generalize w2.alloc _=w4 at *
  clear hc3
  obtain ⟨hlc,hc,ha,hat,hg⟩:=HA.out
  have hfit:=scan_fits (t:=t) (by rw [← HSc.out];exact HZc.out)
  rw [← HSc.out] at hfit
  have hgl:g<w4.heap.size:=Nat.lt_of_lt_of_le hg (by rw [HSZ.out];omega)
  have hat2:TokAt w4 g 0 L1:=hat.same (HSB.out g hg)
  go_at_call 11
  refine (parsed_any (w:=w4) (ts:=L1) (Og.below HT.out (below_grown HW.out.grown)) a c g 0 hlc hc ha hat2 hgl hfit.1 hfit.2.1 t.size).mono ?_
  have HFit:=ħ hfit
  clear hlc hc ha hat hg hfit hgl hat2
  rintro e w5 ⟨hG5,⟨n,v,hR,rfl,hN⟩|⟨r,hr,hR,rfl⟩⟩
  ·obtain ⟨k_n,t_n,v_n,a_n,l_n,c_n,rfl⟩:=hN.form
   have HR:=ħ hR
   have HN_n:=ħ (HW.out.given hN)
   have HZ_n:Hid (w.heap.size≤w4.heap.size):=HW.out.grown.size
   have HBd:=ħ (R_bd HFit.out.2.2 hR)
   replace HW:=ħ (HW.out.quiet hG5)
   clear hG5 hR hN
   have hc6:=HW.out.c0
   have hf7:=HW.out.f0
   have hl9:=HW.out.l0
   have hb8:(w5.alloc (.cells #[.int .i64 k_n,.string t_n,.int .i64 v_n,.slice a_n l_n c_n] 24)).heap[w2.heap.size]?=some (.cells #[.int .i64 sc,.int .i64 (sa:Int)] 27 (0,0)):=(Below.heap_alloc _ _ _ (HW.out.lt (w2.heap.size,#[.int .i64 sc,.int .i64 (sa:Int)],27) (List.mem_cons_self))).trans (HW.out.blk (w2.heap.size,#[.int .i64 sc,.int .i64 (sa:Int)],27) (List.mem_cons_self)).2
   have hd8:=cells_at hb8
   have he8:=frozen_at hb8
   clear hb8
   replace HW:=ħ (HW.out.r00 (.int .i64 0))
   replace HN_n:=HW.out.mr00.N HN_n
   have hc10:=HW.out.c0
   have hf11:=HW.out.f0
   have hl13:=HW.out.l0
   have hb12:((w5.setCell ⟨w2.heap.size,0,none⟩ (.int .i64 0)).alloc (.cells #[.int .i64 k_n,.string t_n,.int .i64 v_n,.slice a_n l_n c_n] 24)).heap[w2.heap.size]?=some (.cells #[.int .i64 0,.int .i64 (sa:Int)] 27 (0,0)):=(Below.heap_alloc _ _ _ (HW.out.lt (w2.heap.size,#[.int .i64 0,.int .i64 (sa:Int)],27) (List.mem_cons_self))).trans (HW.out.blk (w2.heap.size,#[.int .i64 0,.int .i64 (sa:Int)],27) (List.mem_cons_self)).2
   have hd12:=cells_at hb12
   have he12:=frozen_at hb12
   clear hb12
   replace HW:=ħ (HW.out.r01 (.int .i64 0))
   replace HN_n:=HW.out.mr01.N HN_n
   replace HW:=HW.out.am w5.heap.size HN_n
   replace HN_n:=HW.out.nA HN_n
   have hc14:=HW.out.c0
   have hc15:=HW.out.c1
   go_wp2_with fail
   generalize ((w5.setCell _ _).setCell _ _).alloc _=w16 at *
   clear hc6 hf7 hl9 hd8 he8 hc10 hf11 hl13 hd12 he12 hc14 hc15
   go_at_call 12
   refine (fits_any (w0:=w16) (Below.refl _ _) n _ (HN_n.out.toO HBd.out)).mono ?_
   rintro e w17 ⟨rfl,hB17⟩
   replace HN_n:=ħ ((Mv.quiet (grown_below hB17)).nd HN_n.out)
   replace HW:=ħ (HW.out.quiet (grown_below hB17))
   clear hB17
   cases hft:fitB n with
   | false=>
    have HFt:=ħ hft
    clear hft
    have hc18:=HW.out.c3
    have hc19:=HW.out.c2
    have hf20:=HW.out.f3
    have hf21:=HW.out.f2
    replace HW:=ħ (HW.out.s3 (.int .i64 0) (.string ⟨#[]⟩) (.int .i64 0) (.slice none 0 0))
    replace HN_n:=HW.out.ms3.N HN_n
    have hc22:=HW.out.c2
    have hf23:=HW.out.f2
    replace HW:=ħ (HW.out.r20 (.int .i64 1))
    replace HN_n:=HW.out.mr20.N HN_n
    have hc24:=HW.out.c2
    have hf25:=HW.out.f2
    replace HW:=ħ (HW.out.r21 (.int .i64 0))
    replace HN_n:=HW.out.mr21.N HN_n
    have hc26:=HW.out.c3
    have hl27:=HW.out.l3
    have hc28:=HW.out.c2
    have hl29:=HW.out.l2
    go_wp2_with fail
    generalize (((((w17.setCell _ _).setCell _ _).setCell _ _).setCell _ _).setCell _ _).setCell _ _=w30 at *
    clear hc18 hc19 hf20 hf21 hc22 hf23 hc24 hf25
    refine bodyPost_ret (v:=.tuple #[(.agg #[.int .i64 0,.string ⟨#[]⟩,.int .i64 0,.slice none 0 0]),(.agg #[.int .i64 1,.int .i64 0])]) (by simp [results,Tryz.results6,go_sem,hc26,hl27,hc28,hl29]) rfl ?_
    exact ⟨HW.out.grown,Or.inr ⟨_,_,Or.inr ⟨by rw [← HSc.out];exact HZc.out,Or.inr ⟨n,by rw [← HSc.out];exact HR.out,HFt.out,rfl,rfl⟩⟩,rfl⟩⟩
   | true=>
    have HFt:=ħ hft
    clear hft
    have hc18:=HW.out.c0
    have hc19:=HW.out.c3
    have hc20:=HW.out.c2
    have hf21:=HW.out.f3
    have hf22:=HW.out.f2
    replace HW:=ħ (HW.out.s3 (.int .i64 k_n) (.string t_n) (.int .i64 v_n) (.slice a_n l_n c_n))
    replace HN_n:=HW.out.ms3.N HN_n
    have hc23:=HW.out.c2
    have hf24:=HW.out.f2
    replace HW:=ħ (HW.out.r20 (.int .i64 0))
    replace HN_n:=HW.out.mr20.N HN_n
    have hc25:=HW.out.c2
    have hf26:=HW.out.f2
    replace HW:=ħ (HW.out.r21 (.int .i64 0))
    replace HN_n:=HW.out.mr21.N HN_n
    have hc27:=HW.out.c3
    have hl28:=HW.out.l3
    have hc29:=HW.out.c2
    have hl30:=HW.out.l2
    go_wp2_with fail
    generalize (((((w17.setCell _ _).setCell _ _).setCell _ _).setCell _ _).setCell _ _).setCell _ _=w31 at *
    clear hc18 hc19 hc20 hf21 hf22 hc23 hf24 hc25 hf26
    refine bodyPost_ret (v:=.tuple #[(.agg #[.int .i64 k_n,.string t_n,.int .i64 v_n,.slice a_n l_n c_n]),(.agg #[.int .i64 0,.int .i64 0])]) (by simp [results,Tryz.results6,go_sem,hc27,hl28,hc29,hl30]) rfl ?_
    exact ⟨HW.out.grown,Or.inl ⟨n,_,by rw [← HSc.out];exact HZc.out,by rw [← HSc.out];exact HR.out,HFt.out,rfl,HN_n.out.mono (fun k hk _=>Nat.le_trans HZ_n.out hk.1)⟩⟩
  have HR:=ħ hR
  have HSu:=ħ hr
  obtain ⟨pl,hpl⟩:∃ pl,pl=atOf t.size r:=⟨_,rfl⟩
  rw [← hpl]
  have HPl:=ħ hpl
  clear hR hr hpl
  replace HW:=ħ (HW.out.quiet hG5)
  clear hG5
  have hc18:=HW.out.c0
  have hf19:=HW.out.f0
  have hl21:=HW.out.l0
  have hb20:(w5.alloc (.cells #[.int .i64 0,.string ⟨#[]⟩,.int .i64 0,.slice none 0 0] 24)).heap[w2.heap.size]?=some (.cells #[.int .i64 sc,.int .i64 (sa:Int)] 27 (0,0)):=(Below.heap_alloc _ _ _ (HW.out.lt (w2.heap.size,#[.int .i64 sc,.int .i64 (sa:Int)],27) (List.mem_cons_self))).trans (HW.out.blk (w2.heap.size,#[.int .i64 sc,.int .i64 (sa:Int)],27) (List.mem_cons_self)).2
  have hd20:=cells_at hb20
  have he20:=frozen_at hb20
  clear hb20
  replace HW:=ħ (HW.out.r00 (.int .i64 2))
  have hc22:=HW.out.c0
  have hf23:=HW.out.f0
  have hl25:=HW.out.l0
  have hb24:((w5.setCell ⟨w2.heap.size,0,none⟩ (.int .i64 2)).alloc (.cells #[.int .i64 0,.string ⟨#[]⟩,.int .i64 0,.slice none 0 0] 24)).heap[w2.heap.size]?=some (.cells #[.int .i64 2,.int .i64 (sa:Int)] 27 (0,0)):=(Below.heap_alloc _ _ _ (HW.out.lt (w2.heap.size,#[.int .i64 2,.int .i64 (sa:Int)],27) (List.mem_cons_self))).trans (HW.out.blk (w2.heap.size,#[.int .i64 2,.int .i64 (sa:Int)],27) (List.mem_cons_self)).2
  have hd24:=cells_at hb24
  have he24:=frozen_at hb24
  clear hb24
  replace HW:=ħ (HW.out.r01 (.int .i64 pl))
  replace HW:=HW.out.az w5.heap.size
  have hc26:=HW.out.c1
  go_wp2_with fail
  generalize ((w5.setCell _ _).setCell _ _).alloc _=w27 at *
  clear hc18 hf19 hl21 hd20 he20 hc22 hf23 hl25 hd24 he24 hc26
  replace HW:=ħ (HW.out.quiet (grown_drew w27))
  refine wp_region_held_drew (S:=(fun _=>True)) (by kernel_rfl) trivial fun hHd=>?_
  generalize w27.drew=w28 at *
  refine tq 0 ?_
  simp only [qq]
  refine rq2 1 2 (fun K hK=>?_) fun K hK=>?_
  ·have hc29:=HW.out.c1
   go_simp
   clear hc29
   refine hK.out _ _ trivial fun hHd=>?_
   clear hK K
   try simp only [qq]
   refine rq 2 fun K hK=>?_
   have hc30:=HW.out.c3
   have hf31:=HW.out.f3
   replace HW:=ħ (HW.out.s3 (.int .i64 0) (.string ⟨#[]⟩) (.int .i64 0) (.slice none 0 0))
   go_simp
   refine hK.out _ _ trivial fun hHd=>?_
   clear hK K
   try simp only [qq]
   generalize (((w28.setCell _ _).setCell _ _).setCell _ _).setCell _ _=w32 at *
   clear hc30 hf31
   refine rq 3 fun K hK=>?_
   have hc33:=HW.out.c2
   have hf34:=HW.out.f2
   replace HW:=ħ (HW.out.r20 (.int .i64 2))
   replace HW:=ħ (HW.out.r21 (.int .i64 pl))
   go_simp
   refine hK.out _ _ trivial fun hHd=>?_
   clear hK K
   try simp only [qq]
   generalize (w32.setCell _ _).setCell _ _=w35 at *
   clear hc33 hf34
   refine wpAnyH_done (by kernel_rfl) ?_ _
   have hc36:=HW.out.c3
   have hl37:=HW.out.l3
   have hc38:=HW.out.c2
   have hl39:=HW.out.l2
   go_wp2_with fail
   refine bodyPost_ret (v:=.tuple #[(.agg #[.int .i64 0,.string ⟨#[]⟩,.int .i64 0,.slice none 0 0]),(.agg #[.int .i64 2,.int .i64 pl])]) (by simp [results,Tryz.results6,go_sem,hc36,hl37,hc38,hl39]) rfl ?_
   exact ⟨HW.out.grown,Or.inr ⟨_,_,Or.inr ⟨by rw [← HSc.out];exact HZc.out,Or.inl ⟨r,by rw [← HSc.out];exact HSu.out,by rw [← HSc.out];exact HR.out,rfl,HPl.out⟩⟩,rfl⟩⟩
  have hc40:=HW.out.c3
  have hf41:=HW.out.f3
  replace HW:=ħ (HW.out.s3 (.int .i64 0) (.string ⟨#[]⟩) (.int .i64 0) (.slice none 0 0))
  go_simp
  refine hK.out _ _ trivial fun hHd=>?_
  clear hK K
  try simp only [qq]
  generalize (((w28.setCell _ _).setCell _ _).setCell _ _).setCell _ _=w42 at *
  clear hc40 hf41
  refine rq 1 fun K hK=>?_
  have hc43:=HW.out.c1
  go_simp
  clear hc43
  refine hK.out _ _ trivial fun hHd=>?_
  clear hK K
  try simp only [qq]
  refine rq 3 fun K hK=>?_
  have hc44:=HW.out.c2
  have hf45:=HW.out.f2
  replace HW:=ħ (HW.out.r20 (.int .i64 2))
  replace HW:=ħ (HW.out.r21 (.int .i64 pl))
  go_simp
  refine hK.out _ _ trivial fun hHd=>?_
  clear hK K
  try simp only [qq]
  generalize (w42.setCell _ _).setCell _ _=w46 at *
  clear hc44 hf45
  refine wpAnyH_done (by kernel_rfl) ?_ _
  have hc47:=HW.out.c3
  have hl48:=HW.out.l3
  have hc49:=HW.out.c2
  have hl50:=HW.out.l2
  go_wp2_with fail
  refine bodyPost_ret (v:=.tuple #[(.agg #[.int .i64 0,.string ⟨#[]⟩,.int .i64 0,.slice none 0 0]),(.agg #[.int .i64 2,.int .i64 pl])]) (by simp [results,Tryz.results6,go_sem,hc47,hl48,hc49,hl50]) rfl ?_
  exact ⟨HW.out.grown,Or.inr ⟨_,_,Or.inr ⟨by rw [← HSc.out];exact HZc.out,Or.inl ⟨r,by rw [← HSc.out];exact HSu.out,by rw [← HSc.out];exact HR.out,rfl,HPl.out⟩⟩,rfl⟩⟩
 have hz':(sc == 0)=false:=by simpa using hz
 have HZc:=ħ hz
 clear hz
 go_wp2_with fail
 generalize w2.alloc _=w18 at *
 clear hc3
 replace HW:=ħ (HW.out.quiet (grown_drew w18))
 refine wp_region_held_drew (S:=(fun _=>True)) (by kernel_rfl) trivial fun hHd=>?_
 generalize w18.drew=w19 at *
 refine tq 0 ?_
 simp only [qq]
 refine rq2 1 2 (fun K hK=>?_) fun K hK=>?_
 ·have hc20:=HW.out.c0
  go_simp
  clear hc20
  refine hK.out _ _ trivial fun hHd=>?_
  clear hK K
  try simp only [qq]
  refine rq 2 fun K hK=>?_
  have hc21:=HW.out.c2
  have hf22:=HW.out.f2
  replace HW:=ħ (HW.out.s2 (.int .i64 0) (.string ⟨#[]⟩) (.int .i64 0) (.slice none 0 0))
  go_simp
  refine hK.out _ _ trivial fun hHd=>?_
  clear hK K
  try simp only [qq]
  generalize (((w19.setCell _ _).setCell _ _).setCell _ _).setCell _ _=w23 at *
  clear hc21 hf22
  refine rq 3 fun K hK=>?_
  have hc24:=HW.out.c1
  have hf25:=HW.out.f1
  replace HW:=ħ (HW.out.r10 (.int .i64 sc))
  replace HW:=ħ (HW.out.r11 (.int .i64 (sa:Int)))
  go_simp
  refine hK.out _ _ trivial fun hHd=>?_
  clear hK K
  try simp only [qq]
  generalize (w23.setCell _ _).setCell _ _=w26 at *
  clear hc24 hf25
  refine wpAnyH_done (by kernel_rfl) ?_ _
  have hc27:=HW.out.c2
  have hl28:=HW.out.l2
  have hc29:=HW.out.c1
  have hl30:=HW.out.l1
  go_wp2_with fail
  refine bodyPost_ret (v:=.tuple #[(.agg #[.int .i64 0,.string ⟨#[]⟩,.int .i64 0,.slice none 0 0]),(.agg #[.int .i64 sc,.int .i64 (sa:Int)])]) (by simp [results,Tryz.results6,go_sem,hc27,hl28,hc29,hl30]) rfl ?_
  exact ⟨HW.out.grown,Or.inr ⟨_,_,Or.inl ⟨HZc.out,by rw [← HSc.out],by rw [← HSc.out]⟩,rfl⟩⟩
 have hc31:=HW.out.c2
 have hf32:=HW.out.f2
 replace HW:=ħ (HW.out.s2 (.int .i64 0) (.string ⟨#[]⟩) (.int .i64 0) (.slice none 0 0))
 go_simp
 refine hK.out _ _ trivial fun hHd=>?_
 clear hK K
 try simp only [qq]
 generalize (((w19.setCell _ _).setCell _ _).setCell _ _).setCell _ _=w33 at *
 clear hc31 hf32
 refine rq 1 fun K hK=>?_
 have hc34:=HW.out.c0
 go_simp
 clear hc34
 refine hK.out _ _ trivial fun hHd=>?_
 clear hK K
 try simp only [qq]
 refine rq 3 fun K hK=>?_
 have hc35:=HW.out.c1
 have hf36:=HW.out.f1
 replace HW:=ħ (HW.out.r10 (.int .i64 sc))
 replace HW:=ħ (HW.out.r11 (.int .i64 (sa:Int)))
 go_simp
 refine hK.out _ _ trivial fun hHd=>?_
 clear hK K
 try simp only [qq]
 generalize (w33.setCell _ _).setCell _ _=w37 at *
 clear hc35 hf36
 refine wpAnyH_done (by kernel_rfl) ?_ _
 have hc38:=HW.out.c2
 have hl39:=HW.out.l2
 have hc40:=HW.out.c1
 have hl41:=HW.out.l1
 go_wp2_with fail
 refine bodyPost_ret (v:=.tuple #[(.agg #[.int .i64 0,.string ⟨#[]⟩,.int .i64 0,.slice none 0 0]),(.agg #[.int .i64 sc,.int .i64 (sa:Int)])]) (by simp [results,Tryz.results6,go_sem,hc38,hl39,hc40,hl41]) rfl ?_
 exact ⟨HW.out.grown,Or.inr ⟨_,_,Or.inl ⟨HZc.out,by rw [← HSc.out],by rw [← HSc.out]⟩,rfl⟩⟩
end Go.Proofs.YthcfianhdkolhaaGreatDoor.Y
namespace Go.Proofs.YthcfianhdkolhaaGreatDoor.T
open Go.ChangeShapes Go.WideShapes Go.ChangeAt Go.RowKit
set_option linter.unusedVariables false
theorem g_er : Tryz.prog.globalNamed "strconv.ErrRange" = some 3 := by kernel_rfl
theorem t_er:(Tryz.prog.globals[3]?).map (·.type)=some 86:=by kernel_rfl
theorem star : "*" ++ "errors.errorString" = "*errors.errorString" := by decide
theorem row142 (u : TypeId) (h : Tryz.prog.typeName? 3 u = some "*errors.errorString") : u = 142 :=
 typeName_ptr_named (nm := "errors.errorString") (by rw [star]; kernel_rfl) (by kernel_rfl) (by decide) u (by rw [star]; exact h)
theorem c_9:Tryz.prog.cellsOf 9=1:=by kernel_rfl
theorem c_144:Tryz.prog.cellsOf 144=1:=by kernel_rfl
theorem er_of {W : World} {r : List (String × DataW Unit)} (h : laidMet Tryz.prog (("strconv.ErrRange", Rows.laid_strconv_ErrRange) :: r) W) : X.Gl W := by
 obtain ⟨a,s,hv,_⟩:=laid_sentinel h g_er t_er Tryz.underlying86 row142 Tryz.underlying142 Tryz.underlying144 rfl rfl Tryz.underlying9 c_144 c_9
 exact ⟨_,_,by rw [World.var?_cell g_er hv 0];rfl⟩
theorem post_below {H:Type} {enc:TypeId × Value→H} {P:Program} {f:Func} {s:ChangeSpec} {apart fresh handsOn:Bool} {W W':World} {args:Array Value} {v:Value} {ds gs:List (DataW H)} {before pa pv:List MemPlace}
  (hW:DataW.Whole enc P f.params.toList s.vars apart W args.toList ds gs before)
  (hres:∀ (b:Nat) (sp:Nat→Bool) (hd:Bool),DataW.TrodAll enc P W' b sp hd f.resultTypes.toList (v.resultList f.resultTypes.size) (s.fn H (ds++gs)).results [])
  (hargs:∀ sp:Nat→Bool,(∀ p∈before,sp p.block=true)→DataW.TrodAll enc P W' 0 sp true f.params.toList args.toList (s.fn H (ds++gs)).args pa)
  (hvars:∀ sp:Nat→Bool,(∀ p∈before,sp p.block=true)→DataW.TrodVars enc P W' sp s.vars (s.fn H (ds++gs)).vars pv)
  (hps:before=pa++pv) (hb:Below W.heap.size W W'):
  s.post enc P f apart fresh handsOn false W args v W':=by
 have hold:∀ p∈before,(fun b=>decide (b<W.heap.size)) p.block=true:=fun p hp=>by simpa using hW.lt p hp
 refine ⟨ds,gs,before,[],pa,pv,hW,hres _ _ _,hargs _ hold,hvars _ hold,World.keptBut_mono (fun p hp=>⟨hp,?_⟩) (hb.frame (·∈before)),fun h=>by cases h⟩
 rw [hps,List.mem_append] at hp
 exact Or.inr hp
end Go.Proofs.YthcfianhdkolhaaGreatDoor.T
namespace Go.Proofs.YthcfianhdkolhaaGreatDoor.Y
open Go.RowKit Go.Proofs.YthcfianhdkolhaaGreatDoor.T Go.Proofs.YthcfianhdkolhaaGreatDoor.S
set_option maxRecDepth 100000
set_option maxHeartbeats 2000000
set_option linter.unusedVariables false
set_option linter.unusedSimpArgs false
variable {w w' : World} {b g : Nat} {m : Value} {ts : List X.Tok} {t : X.Tok}
theorem beq_str (x:ByteArray):(x.toList == x.toList)=true:=beq_self_eq_true _
theorem bne_str (x:ByteArray):(x.toList != x.toList)=false:=by unfold bne;rw [beq_str];rfl
theorem bne_int (x:Int):(x != x)=false:=by simp
theorem bne_nat (x:Nat):(x != x)=false:=by simp
def SameN (n:Nd):Prop:=∀ (w:World) (va vb:Value),T.NdO w n va→T.NdO w n vb→Calls Tryz.prog 8 #[va,vb] w fun e w'=>e=.returned (.bool true)∧Below w.heap.size w w'
theorem same_step (kind:Int) (text:List UInt8) (num:Int) (kids:List Nd) (ih:∀ x,x∈kids→SameN x):SameN (.mk kind text num kids):=by
 intro w va vb ha hb
 obtain ⟨ka,kc,rfl,p1,p2,p3,p4,p5,hA⟩:=ha.part
 obtain ⟨kb,kd,rfl,r1,r2,r3,r4,r5,hB⟩:=hb.part
 have HA:=ħ hA
 have HB:=ħ hB
 have HI:=ħ ih
 have hlen:kids.length≤9223372036854775807:=by omega
 clear ha hb hA hB ih p1 p2 p3 p4 p5 r1 r2 r3 r4 r5
 have t1:=beq_str (str text)
 have t2:=bne_str (str text)
 have t3:=bne_int kind
 have t4:=bne_int num
 have t5:=bne_nat kids.length
 have hB0:Below w.heap.size w ((w.alloc (.cells #[.int .i64 kind,.string (str text),.int .i64 num,.slice ka kids.length kc] 24)).alloc (.cells #[.int .i64 kind,.string (str text),.int .i64 num,.slice kb kids.length kd] 24)):=((Below.refl _ _).alloc (Nat.le_refl _) _).alloc (by simp) _
 have hx0:∀ o,((w.alloc (.cells #[.int .i64 kind,.string (str text),.int .i64 num,.slice ka kids.length kc] 24)).alloc (.cells #[.int .i64 kind,.string (str text),.int .i64 num,.slice kb kids.length kd] 24)).cell? ⟨w.heap.size,o,none⟩=(#[Value.int .i64 kind,.string (str text),.int .i64 num,.slice ka kids.length kc])[o]?:=fun o=>(World.cell?_alloc_past _ _ _ (by simp)).trans (World.cell?_alloc_at _ _ _ _ rfl)
 have hy0:∀ o,((w.alloc (.cells #[.int .i64 kind,.string (str text),.int .i64 num,.slice ka kids.length kc] 24)).alloc (.cells #[.int .i64 kind,.string (str text),.int .i64 num,.slice kb kids.length kd] 24)).cell? ⟨w.heap.size+1,o,none⟩=(#[Value.int .i64 kind,.string (str text),.int .i64 num,.slice kb kids.length kd])[o]?:=fun o=>World.cell?_alloc_at _ _ _ _ (by simp)
 have hz0:((w.alloc (.cells #[.int .i64 kind,.string (str text),.int .i64 num,.slice ka kids.length kc] 24)).alloc (.cells #[.int .i64 kind,.string (str text),.int .i64 num,.slice kb kids.length kd] 24)).heap.size=w.heap.size+1+1:=by simp
 have HB0:=ħ hB0
 clear hB0
 go_enter Tryz.func8,Tryz.ntmps8
 go_wp2_with fail
 generalize ((w.alloc (.cells #[.int .i64 kind,.string (str text),.int .i64 num,.slice ka kids.length kc] 24)).alloc (.cells #[.int .i64 kind,.string (str text),.int .i64 num,.slice kb kids.length kd] 24))=W at *
 have HW:Hid (∀ w',Below W.heap.size W w'→Below w.heap.size w w'):=fun w' hw=>HB0.out.trans (hw.mono (by omega))
 have HXc:Hid (∀ w',Below W.heap.size W w'→(∀ o,w'.cell? ⟨w.heap.size,o,none⟩=(#[Value.int .i64 kind,.string (str text),.int .i64 num,.slice ka kids.length kc])[o]?)∧(∀ o,w'.cell? ⟨w.heap.size+1,o,none⟩=(#[Value.int .i64 kind,.string (str text),.int .i64 num,.slice kb kids.length kd])[o]?)):=fun w' hw=>⟨fun o=>(hw.cell (p:=⟨w.heap.size,o,none⟩) (by show w.heap.size<_;omega)).trans (hx0 o),fun o=>(hw.cell (p:=⟨w.heap.size+1,o,none⟩) (by show w.heap.size+1<_;omega)).trans (hy0 o)⟩
 clear hx0 hy0 hz0 HB0 t1 t2 t3 t4 t5
 go_loopw [5] (fun i wr=>∃ k:Nat,k≤kids.length∧i=.int .i64 k∧Hid (Below W.heap.size W wr)) (fun i _=>kids.length - (intOf i).toNat)
 case atStart=>exact ⟨0,Nat.zero_le _,rfl,Below.refl _ _⟩
 case round=>
  obtain ⟨k,hk,rfl,HBk⟩:=hrel
  obtain ⟨hx1,hy1⟩:=HXc.out wr HBk.out
  by_cases hlt:k<kids.length
  ·have hlt':(k:Int)<kids.length:=by omega
   have hidx:(0:Int)≤k∧(k:Int)<kids.length:=by omega
   obtain ⟨g1,o1,a0,a1,a2,a3,a4,a5,rfl,hg1,u0,u1,u2,u3,u4⟩:=T.RowO.kid HA.out k hlt
   obtain ⟨g2,o2,b0,b1,b2,b3,b4,b5,rfl,hg2,v0,v1,v2,v3,v4⟩:=T.RowO.kid HB.out k hlt
   have hcal:=fun w' (hw:Below W.heap.size W w')=>HI.out _ (List.getElem_mem hlt) w' _ _ (u4.under (HW.out w' hw)) (v4.under (HW.out w' hw))
   have HSb:Hid (∀ w',Below W.heap.size W w'→(∀ o,w'.cell? ⟨w.heap.size,o,none⟩=(#[Value.int .i64 kind,.string (str text),.int .i64 num,.slice (some ⟨g1,o1,none⟩) kids.length kc])[o]?)∧(∀ o,w'.cell? ⟨w.heap.size+1,o,none⟩=(#[Value.int .i64 kind,.string (str text),.int .i64 num,.slice (some ⟨g2,o2,none⟩) kids.length kd])[o]?)∧w'.cell? ⟨g1,o1+k*4,none⟩=some (.int .i64 a0)∧w'.cell? ⟨g1,o1+k*4+1,none⟩=some (.string a1)∧w'.cell? ⟨g1,o1+k*4+2,none⟩=some (.int .i64 a2)∧w'.cell? ⟨g1,o1+k*4+3,none⟩=some (.slice a3 a4 a5)∧w'.cell? ⟨g2,o2+k*4,none⟩=some (.int .i64 b0)∧w'.cell? ⟨g2,o2+k*4+1,none⟩=some (.string b1)∧w'.cell? ⟨g2,o2+k*4+2,none⟩=some (.int .i64 b2)∧w'.cell? ⟨g2,o2+k*4+3,none⟩=some (.slice b3 b4 b5)):=fun w' hw=>⟨(HXc.out w' hw).1,(HXc.out w' hw).2,T.below_cell (HW.out _ hw) u0,T.below_cell (HW.out _ hw) u1,T.below_cell (HW.out _ hw) u2,T.below_cell (HW.out _ hw) u3,T.below_cell (HW.out _ hw) v0,T.below_cell (HW.out _ hw) v1,T.below_cell (HW.out _ hw) v2,T.below_cell (HW.out _ hw) v3⟩
   clear u0 u1 u2 u3 u4 v0 v1 v2 v3 v4
   go_wp2_with fail
   refine wp_region_held_drew (S:=fun w'=>(∀ o,w'.cell? ⟨w.heap.size,o,none⟩=(#[Value.int .i64 kind,.string (str text),.int .i64 num,.slice (some ⟨g1,o1,none⟩) kids.length kc])[o]?)∧(∀ o,w'.cell? ⟨w.heap.size+1,o,none⟩=(#[Value.int .i64 kind,.string (str text),.int .i64 num,.slice (some ⟨g2,o2,none⟩) kids.length kd])[o]?)∧w'.cell? ⟨g1,o1+k*4,none⟩=some (.int .i64 a0)∧w'.cell? ⟨g1,o1+k*4+1,none⟩=some (.string a1)∧w'.cell? ⟨g1,o1+k*4+2,none⟩=some (.int .i64 a2)∧w'.cell? ⟨g1,o1+k*4+3,none⟩=some (.slice a3 a4 a5)∧w'.cell? ⟨g2,o2+k*4,none⟩=some (.int .i64 b0)∧w'.cell? ⟨g2,o2+k*4+1,none⟩=some (.string b1)∧w'.cell? ⟨g2,o2+k*4+2,none⟩=some (.int .i64 b2)∧w'.cell? ⟨g2,o2+k*4+3,none⟩=some (.slice b3 b4 b5)) (by kernel_rfl) (HSb.out _ HBk.out.drew) (fun hHeld=>?_)
   refine tq 0 ?_
   simp only [qq]
   refine tq 1 ?_
   simp only [qq]
   refine tq 2 ?_
   simp only [qq]
   refine tq 3 ?_
   simp only [qq]
   refine tq 4 ?_
   simp only [qq]
   refine tq 5 ?_
   simp only [qq]
   refine tq 6 ?_
   simp only [qq]
   refine tq 7 ?_
   simp only [qq]
   refine tq 8 ?_
   simp only [qq]
   refine tq 9 ?_
   simp only [qq]
   refine rq 10 fun K hK=>?_
   go_simp
   refine (hcal _ HBk.out.drew).mono ?_
   rintro e w1 ⟨rfl,hb1'⟩
   have HB1:Hid (Below W.heap.size W w1):=HBk.out.drew.trans (hb1'.mono HBk.out.size)
   refine hK.out _ _ (HSb.out _ HB1.out) (fun hHeld2=>?_)
   clear hK K hb1'
   try simp only [qq]
   refine tq 11 ?_
   simp only [qq]
   refine wpAnyH_done (by kernel_rfl) ?_ _
   go_wp2_with fail
   go_roundw
   case rel=>exact ⟨k+1,by omega,by go_num,HB1⟩
   case measure=>simp [intOf];omega
  obtain rfl:k=kids.length:=by omega
  have hlt':¬ (kids.length:Int)<kids.length:=by omega
  go_wp2_with fail
  go_ret
  exact ⟨rfl,HW.out _ HBk.out⟩
theorem same_any:∀ n,SameN n:=Nd.ind fun k t v kids ih=>same_step k t v kids ih
end Go.Proofs.YthcfianhdkolhaaGreatDoor.Y
