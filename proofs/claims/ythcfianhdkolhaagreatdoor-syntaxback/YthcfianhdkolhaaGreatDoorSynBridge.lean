/- SynText SynToks SynBridge -/
import Derived.Test.YthcfianhdkolhaaGreatDoorXSc
import Derived.Test.YthcfianhdkolhaaGreatDoorSynDig
namespace Go.Proofs.YthcfianhdkolhaaGreatDoor.S
open Go.Proofs.YthcfianhdkolhaaGreatDoor.X (Has Fine Like scan look rowEnd rowC rowCode rowText isL mostW mostL aboveB byteAt str sigN good_sign byteAt_str byteAt_get ba_ext insB raw signs)
set_option linter.unusedVariables false
set_option linter.unusedSimpArgs false
theorem let_same (c:Nat):X.letB c=letB c:=rfl
theorem dig_same (c:Nat):X.digB c=digB c:=rfl
theorem let_blank {c:Nat} (h:letB c=true):X.blank false c=false:=by
 unfold letB at h
 unfold X.blank
 simp only [Bool.or_eq_true,Bool.and_eq_true,decide_eq_true_eq] at h
 simp
 omega
theorem dig_blank {c:Nat} (h:digB c=true):X.blank false c=false∧letB c=false:=by
 unfold digB at h
 unfold X.blank letB
 simp only [Bool.and_eq_true,decide_eq_true_eq] at h
 simp
 omega
theorem good_word {x:ByteArray} (h1:1≤x.size) (h16:x.size≤16) (hl:letB (byteAt x 0)=true) (hi:∀ j,j<x.size→insB (byteAt x j)=true):X.Good x 1 x:=by
 intro S pos hS
 have b0:byteAt S pos=byteAt x 0:=by
  have:=hS.at' 0 (by omega)
  rwa [Nat.add_zero] at this
 refine ⟨?_,by rw [b0];exact let_blank hl⟩
 unfold X.look
 rw [b0,if_pos (show X.letB (byteAt x 0)=true from hl),hS.rowEnd hi,hS.extract,if_neg (by omega)]
theorem good_row {x:ByteArray} (h1:1≤x.size) (hd:digB (byteAt x 0)=true) (hi:∀ j,j<x.size→insB (byteAt x j)=true) (hc:rowCode x=0):X.Good x (if X.isL x=true then 3 else 2) (rowText x):=by
 intro S pos hS
 have b0:byteAt S pos=byteAt x 0:=by
  have:=hS.at' 0 (by omega)
  rwa [Nat.add_zero] at this
 obtain ⟨d1,d2⟩:=dig_blank hd
 refine ⟨?_,by rw [b0];exact d1⟩
 unfold X.look
 rw [b0,if_neg (show ¬ X.letB (byteAt x 0)=true by rw [let_same,d2];decide),if_pos (show X.digB (byteAt x 0)=true from hd),hS.rowEnd hi,hS.extract,hc]
theorem at_list {s:List UInt8} {j:Nat} (hj:j<s.length):byteAt (str s) j=(s[j]).toNat:=by
 rw [byteAt_str,List.getElem?_eq_getElem hj]
theorem size_str (s:List UInt8):(str s).size=s.length:=rfl
theorem above_not {s t:List UInt8} (hs:AllD s) (ht:AllD t) (hs0:s≠[]) (ht0:t≠[]) (zs:NoZ s) (zt:NoZ t) (hl:s.length≤t.length) (hv:valN s 0≤valN t 0):aboveB (str s) (str t)=false:=by
 unfold aboveB
 have h1:¬ (str t).size<(str s).size:=by rw [size_str,size_str];omega
 rw [decide_eq_false h1,Bool.false_or]
 by_cases e:s.length=t.length
 ·have e1:(str s).toList=s:=by rw [ByteArray.toList_eq];simp [str]
  have e2:(str t).toList=t:=by rw [ByteArray.toList_eq];simp [str]
  rw [e1,e2]
  have hc:=less_val s t 0 hs ht e
  cases hb:Op.bytesLess s t with
  | true=>simp
  | false=>
   have hge:=hc.2 hb
   have:s=t:=by
    rw [← dec_of_val _ s rfl hs hs0 zs,← dec_of_val _ t rfl ht ht0 zt,show valN s 0=valN t 0 by omega]
   subst this
   simp
 ·rw [decide_eq_false (by rw [size_str,size_str];exact e)]
  rfl
theorem not_above {s t:List UInt8} (hs:AllD s) (ht:AllD t) (hs0:s≠[]) (ht1:10 ^ (t.length - 1)≤valN t 0) (h:aboveB (str s) (str t)=false):valN s 0≤valN t 0:=by
 unfold aboveB at h
 simp only [Bool.or_eq_false_iff,decide_eq_false_iff_not,Bool.and_eq_false_iff] at h
 obtain ⟨h1,h2⟩:=h
 rw [size_str,size_str] at h1
 by_cases e:s.length=t.length
 ·have e1:(str s).toList=s:=by rw [ByteArray.toList_eq];simp [str]
  have e2:(str t).toList=t:=by rw [ByteArray.toList_eq];simp [str]
  rw [e1,e2] at h2
  have hc:=less_val s t 0 hs ht e
  rcases h2 with h2|h2
  ·exact absurd e h2
  ·simp only [Bool.not_eq_false',Bool.or_eq_true,beq_iff_eq] at h2
   rcases h2 with h2|h2
   ·exact Nat.le_of_lt (hc.1 h2)
   ·rw [h2];exact Nat.le_refl _
 ·have h3:=(val_bounds s 0 hs).2
  have h4:10 ^ s.length≤10 ^ (t.length - 1):=Nat.pow_le_pow_right (by omega) (by omega)
  omega
theorem all_dig {s:List UInt8} (h:AllD s) {j:Nat} (hj:j<s.length):digB (byteAt (str s) j)=true:=by
 rw [at_list hj]
 have:=h (s[j]) (List.getElem_mem hj)
 unfold digB
 simp
 omega
theorem dig_insB {c:Nat} (h:digB c=true):insB c=true:=by unfold insB;rw [dig_same,h];simp
theorem rowC_ok {s most:List UInt8} (hs:AllD s) (h0:s≠[]) (zs:NoZ s) (hm:aboveB (str s) (str most)=false):rowC (str s) (str most)=0:=by
 have hpos:0<s.length:=List.length_pos_iff.2 h0
 unfold rowC
 have h1:((List.range (str s).size).all fun i=>X.digB (byteAt (str s) i))=true:=by
  rw [List.all_eq_true]
  intro i hi
  exact all_dig hs (List.mem_range.1 hi)
 rw [h1,if_neg (by decide),if_neg,hm,if_neg (by decide)]
 rintro ⟨h2,h3⟩
 rw [at_list hpos] at h3
 exact zs h2 (s[0]) (by cases s with|nil=>exact absurd rfl h0|cons a r=>rfl) h3
def lW:List UInt8:=[50,49,52,55,52,56,51,54,52,55]
def lL:List UInt8:=[57,50,50,51,51,55,50,48,51,54,56,53,52,55,55,53,56,48,55]
theorem lW_ok:AllD lW∧lW≠[]∧NoZ lW∧valN lW 0=2147483647:=by
 refine ⟨fun c hc=>?_,by decide,fun _ c hc=>?_,by decide⟩
 ·simp [lW] at hc
  rcases hc with rfl|rfl|rfl|rfl|rfl|rfl|rfl|rfl|rfl|rfl<;>decide
 ·simp [lW] at hc
  subst hc
  decide
theorem lL_ok:AllD lL∧lL≠[]∧NoZ lL∧valN lL 0=9223372036854775807:=by
 refine ⟨fun c hc=>?_,by decide,fun _ c hc=>?_,by decide⟩
 ·simp [lL] at hc
  rcases hc with rfl|rfl|rfl|rfl|rfl|rfl|rfl|rfl|rfl|rfl|rfl|rfl|rfl|rfl|rfl|rfl|rfl|rfl|rfl<;>decide
 ·simp [lL] at hc
  subst hc
  decide
theorem isL_dec {s:List UInt8} (h:AllD s) (h0:s≠[]):X.isL (str s)=false:=by
 have hpos:0<s.length:=List.length_pos_iff.2 h0
 unfold X.isL
 rw [size_str,at_list (show s.length - 1<s.length by omega)]
 have:=h (s[s.length - 1]) (List.getElem_mem _)
 simp
 omega
theorem good_num (v:Nat) (hv:v≤2147483647):X.Good (str (decN v)) 2 (str (decN v))∧1≤(str (decN v)).size:=by
 have hpos:0<(decN v).length:=List.length_pos_iff.2 (dec_ne v)
 have hL:=isL_dec (dec_all v) (dec_ne v)
 have hrt:rowText (str (decN v))=str (decN v):=by unfold rowText;rw [hL];rfl
 obtain ⟨l1,l2,l3,l4⟩:=lW_ok
 have hc:rowCode (str (decN v))=0:=by
  unfold rowCode
  rw [hrt,hL]
  exact rowC_ok (most:=lW) (dec_all v) (dec_ne v) (dec_noz v).1 (above_not (dec_all v) l1 (dec_ne v) l2 (dec_noz v).1 l3 (dec_len (k:=10) (by omega) (by omega)) (by rw [dec_val,l4];exact hv))
 have:=good_row (x:=str (decN v)) hpos (all_dig (dec_all v) hpos) (fun j hj=>dig_insB (all_dig (dec_all v) hj)) hc
 rw [hL,hrt] at this
 exact ⟨this,hpos⟩
theorem good_long (v:Nat) (hv:v≤9223372036854775807):X.Good (str (decN v++[76])) 3 (str (decN v))∧1≤(str (decN v++[76])).size:=by
 have hpos:0<(decN v).length:=List.length_pos_iff.2 (dec_ne v)
 have hsz:(str (decN v++[76])).size=(decN v).length+1:=by show (decN v++[76]).length=_;simp
 have hb:∀ j,j<(decN v).length→byteAt (str (decN v++[76])) j=byteAt (str (decN v)) j:=fun j hj=>by
  rw [byteAt_str,byteAt_str,List.getElem?_append_left hj]
 have hlast:byteAt (str (decN v++[76])) (decN v).length=76:=by rw [byteAt_str,List.getElem?_append_right (Nat.le_refl _),Nat.sub_self];rfl
 have hL:X.isL (str (decN v++[76]))=true:=by
  unfold X.isL
  rw [hsz,Nat.add_sub_cancel,hlast]
  rfl
 have hrt:rowText (str (decN v++[76]))=str (decN v):=by
  unfold rowText
  rw [hL,if_pos rfl,hsz,Nat.add_sub_cancel]
  apply ba_ext
  ·rw [ByteArray.size_extract,hsz,size_str];omega
  ·intro j hj
   rw [ByteArray.size_extract] at hj
   rw [X.byteAt_extract _ _ _ _ (by omega) (by omega),Nat.zero_add,hb j (by omega)]
 obtain ⟨l1,l2,l3,l4⟩:=lL_ok
 have hc:rowCode (str (decN v++[76]))=0:=by
  unfold rowCode
  rw [hrt,hL]
  exact rowC_ok (most:=lL) (dec_all v) (dec_ne v) (dec_noz v).1 (above_not (dec_all v) l1 (dec_ne v) l2 (dec_noz v).1 l3 (dec_len (k:=19) (by omega) (by omega)) (by rw [dec_val,l4];exact hv))
 have:=good_row (x:=str (decN v++[76])) (by omega) (by rw [hb 0 hpos];exact all_dig (dec_all v) hpos) (fun j hj=>by
  by_cases e:j<(decN v).length
  ·rw [hb j e];exact dig_insB (all_dig (dec_all v) e)
  ·rw [show j=(decN v).length by omega,hlast];rfl) hc
 rw [hL,hrt] at this
 exact ⟨this,by omega⟩
theorem good_sg (m:Nat) (hm:m<20):X.Good (sigN m) 4 (sigN m)∧1≤(sigN m).size:=by
 refine ⟨?_,(X.sig_ok m hm).1⟩
 have key:∀ m,m<20→(((List.range m).all fun i=>!(decide ((sigN i).size≤(sigN m).size) && ((List.range (sigN i).size).all fun j=>decide (byteAt (sigN m) j=byteAt (sigN i) j)))) && !X.blank false (byteAt (sigN m) 0) && !X.letB (byteAt (sigN m) 0) && !X.digB (byteAt (sigN m) 0))=true→X.Good (sigN m) 4 (sigN m):=fun m hm h=>by
  simp only [Bool.and_eq_true,List.all_eq_true,List.mem_range,Bool.not_eq_true'] at h
  obtain ⟨⟨⟨h2,h3⟩,h4⟩,h5⟩:=h
  refine good_sign hm ((X.pre_iff _ _).2 ⟨Nat.le_refl _,fun _ _=>rfl⟩) (fun i hi=>?_) h3 h4 h5
  rw [Bool.eq_false_iff]
  intro hp
  obtain ⟨p1,p2⟩:=(X.pre_iff _ _).1 hp
  have:=h2 i hi
  rw [decide_eq_true p1,Bool.true_and] at this
  rw [Bool.eq_false_iff] at this
  exact this (List.all_eq_true.2 (fun j hj=>decide_eq_true (p2 j (List.mem_range.1 hj))))
 have:m=0∨m=1∨m=2∨m=3∨m=4∨m=5∨m=6∨m=7∨m=8∨m=9∨m=10∨m=11∨m=12∨m=13∨m=14∨m=15∨m=16∨m=17∨m=18∨m=19:=by omega
 rcases this with rfl|rfl|rfl|rfl|rfl|rfl|rfl|rfl|rfl|rfl|rfl|rfl|rfl|rfl|rfl|rfl|rfl|rfl|rfl|rfl<;>exact key _ hm (by decide)
end Go.Proofs.YthcfianhdkolhaaGreatDoor.S
namespace Go.Proofs.YthcfianhdkolhaaGreatDoor.S
open Go.Proofs.YthcfianhdkolhaaGreatDoor.X (Has Fine Like scan rowEnd rowC rowCode rowText isL mostW mostL aboveB byteAt str sigN good_sign byteAt_str byteAt_get ba_ext insB raw signs)
set_option linter.unusedVariables false
set_option linter.unusedSimpArgs false
def z_TkG (t:Tk):Prop:=X.Good (raw t.kind (str t.text)) t.kind (str t.text)∧1≤(raw t.kind (str t.text)).size
def z_wordB (s:List UInt8):Bool:=decide (1≤s.length) && decide (s.length≤16) && (match s with|[]=>false|c::r=>letB c.toNat && r.all fun c=>insB c.toNat)
theorem z_g_word {s:List UInt8} (h:z_wordB s=true):z_TkG (wd s):=by
 unfold z_wordB at h
 simp only [Bool.and_eq_true,decide_eq_true_eq] at h
 obtain ⟨⟨h1,h2⟩,h3⟩:=h
 have hr:raw (wd s).kind (str (wd s).text)=str s:=by unfold raw;rw [if_neg (show ¬ (1:Int)=3 by decide)]
 unfold z_TkG
 rw [hr]
 cases s with
 | nil=>simp at h1
 | cons c r=>
  simp only [Bool.and_eq_true,List.all_eq_true] at h3
  refine ⟨good_word h1 h2 (by rw [at_list (by simp)];exact h3.1) (fun j hj=>?_),h1⟩
  have hj':j<(c::r).length:=hj
  rw [at_list hj']
  cases j with
  | zero=>exact X.let_ins h3.1
  | succ j=>exact h3.2 _ (List.getElem_mem _)
theorem z_name_word {s:List UInt8} (h:nameB s=true):z_wordB s=true:=by
 unfold nameB at h
 simp only [Bool.and_eq_true,decide_eq_true_eq,List.all_eq_true,List.mem_range] at h
 obtain ⟨⟨⟨h1,h2⟩,h3⟩,_⟩:=h
 unfold z_wordB
 rw [decide_eq_true h1,decide_eq_true h2]
 cases s with
 | nil=>simp at h1
 | cons c r=>
  simp only [Bool.true_and,Bool.and_eq_true,List.all_eq_true]
  refine ⟨by have:=h3 0 (by simp);simpa [signB] using this,fun x hx=>?_⟩
  obtain ⟨j,hj,rfl⟩:=List.mem_iff_getElem.1 hx
  have:=h3 (j+1) (by simp;omega)
  simp only [signB,List.getElem?_cons_succ,List.getElem?_eq_getElem hj] at this
  unfold insB
  rw [let_same,dig_same]
  simp at this ⊢
  rcases this with a|a|a
  ·exact Or.inl (Or.inl a)
  ·exact Or.inl (Or.inr a)
  ·exact Or.inr a
theorem z_g_name {s:List UInt8} (h:nameB s=true):z_TkG (wd s):=z_g_word (z_name_word h)
theorem z_g_sg {s:List UInt8} (h:X.signs.contains s=true):z_TkG (sg s):=by
 rw [List.contains_iff_mem] at h
 obtain ⟨m,hm,e⟩:=List.mem_iff_getElem.1 h
 have hm':m<20:=hm
 have es:sigN m=str s:=by
  unfold sigN str
  rw [List.getD_eq_getElem?_getD,List.getElem?_eq_getElem hm,Option.getD_some,e]
 have hr:raw (sg s).kind (str (sg s).text)=str s:=by unfold raw;rw [if_neg (show ¬ (4:Int)=3 by decide)]
 unfold z_TkG
 rw [hr,← es]
 exact good_sg m hm'
theorem z_g_numT {v:Int} (h1:-2147483647≤v) (h2:v≤2147483647):∀ t,t∈numT 2 v→z_TkG t:=by
 have key:∀ n:Nat,n≤2147483647→z_TkG ⟨2,decN n⟩:=fun n hn=>by
  have hr:raw (2:Int) (str (decN n))=str (decN n):=by unfold raw;rw [if_neg (by decide)]
  unfold z_TkG
  simp only
  rw [hr]
  exact good_num n hn
 intro t ht
 unfold numT at ht
 split at ht
 ·simp at ht
  rcases ht with rfl|rfl
  ·exact z_g_sg (by decide)
  ·exact key _ (by omega)
 ·simp at ht
  subst ht
  exact key _ (by omega)
theorem z_g_numL {v:Int} (h1:-9223372036854775807≤v) (h2:v≤9223372036854775807):∀ t,t∈numT 3 v→z_TkG t:=by
 have key:∀ n:Nat,n≤9223372036854775807→z_TkG ⟨3,decN n⟩:=fun n hn=>by
  have hr:raw (3:Int) (str (decN n))=str (decN n++[76]):=by
   unfold raw
   rw [if_pos rfl]
   apply ByteArray.ext
   apply Array.toList_inj.1
   simp [str,ByteArray.data_append]
  unfold z_TkG
  simp only
  rw [hr]
  exact good_long n hn
 intro t ht
 unfold numT at ht
 split at ht
 ·simp at ht
  rcases ht with rfl|rfl
  ·exact z_g_sg (by decide)
  ·exact key _ (by omega)
 ·simp at ht
  subst ht
  exact key _ (by omega)
def z_Al (l:List Tk):Prop:=∀ t,t∈l→z_TkG t
theorem z_al_nil:z_Al []:=fun t h=>by simp at h
theorem z_al_cons {t:Tk} {l:List Tk} (h:z_TkG t) (k:z_Al l):z_Al (t::l):=fun x hx=>by
 rcases List.mem_cons.1 hx with rfl|hx
 ·exact h
 ·exact k x hx
theorem z_al_app {a b:List Tk} (h:z_Al a) (k:z_Al b):z_Al (a++b):=fun x hx=>by
 rcases List.mem_append.1 hx with hx|hx
 ·exact h x hx
 ·exact k x hx
theorem z_al_at {b k:Int} {x:List Tk} (h:z_Al x):z_Al (atT b k x):=by
 unfold atT
 split
 ·exact z_al_cons (z_g_sg (by decide)) (z_al_app h (z_al_cons (z_g_sg (by decide)) z_al_nil))
 ·exact h
theorem z_al_join:∀ (l:List (List Tk)),(∀ x,x∈l→z_Al x)→z_Al (joinT l)
 | [],_=>z_al_nil
 | [x],h=>h x (by simp)
 | x::y::r,h=>z_al_app (h x (by simp)) (z_al_cons (z_g_sg (by decide)) (z_al_join (y::r) (fun z hz=>h z (by simp [List.mem_cons.1 hz]))))
theorem z_al_row {l:List Nd} {d:Bool} (h:∀ x,x∈l→z_Al (shT x)):z_Al (rowT (l.map shT) d):=by
 unfold rowT
 refine z_al_cons (z_g_sg (by decide)) (z_al_app (z_al_join _ (fun x hx=>?_)) (z_al_cons (z_g_sg (by decide)) z_al_nil))
 rcases List.mem_append.1 hx with hx|hx
 ·obtain ⟨y,hy,rfl⟩:=List.mem_map.1 hx
  exact h y hy
 ·split at hx
  ·simp at hx
   subst hx
   exact z_al_cons (z_g_sg (by decide)) z_al_nil
  ·simp at hx
theorem z_al_flat {l:List Nd} (h:∀ x,x∈l→z_Al (shT x)):z_Al (l.map shT).flatten:=fun t ht=>by
 obtain ⟨x,hx,ht⟩:=List.mem_flatten.1 ht
 obtain ⟨y,hy,rfl⟩:=List.mem_map.1 hx
 exact h y hy t ht
theorem z_al_ty {t:Nd} (h:IsTy t):z_Al (shT t):=by
 induction h with
 | int=>rw [shT_mk];exact z_al_cons (z_g_word (by decide)) z_al_nil
 | long=>rw [shT_mk];exact z_al_cons (z_g_word (by decide)) z_al_nil
 | named s hs=>
  have e:shT (.mk 11 s 0 [])=[wd s]:=by rw [shT_mk];simp [shK]
  rw [e]
  exact z_al_cons (z_g_name hs) z_al_nil
 | fn l d t hl ht ihl iht=>
  have e:shT (.mk 12 [] (b2n d) (l++[t]))=wd sFN::(rowT (l.map shT) d++shT t):=by rw [shT_mk];simp [shK,lastT,b2n_one]
  rw [e]
  exact z_al_cons (z_g_word (by decide)) (z_al_app (z_al_row ihl) iht)
theorem z_op_in {v:Int} (h:isOp v):X.signs.contains (opSign v)=true:=by
 rcases h with rfl|rfl|rfl|rfl|rfl|rfl|rfl|rfl|rfl|rfl<;>decide
theorem z_al_ex {e:Nd} (h:IsEx e):z_Al (shT e):=by
 induction h with
 | num v h1 h2=>
  have e:shT (.mk 21 [] v [])=numT 2 v:=by rw [shT_mk];simp [shK]
  rw [e];exact z_g_numT (by omega) h2
 | long v h1 h2=>
  have e:shT (.mk 22 [] v [])=numT 3 v:=by rw [shT_mk];simp [shK]
  rw [e];exact z_g_numL (by omega) h2
 | name s hs=>
  have e:shT (.mk 23 s 0 [])=[wd s]:=by rw [shT_mk];simp [shK]
  rw [e];exact z_al_cons (z_g_name hs) z_al_nil
 | addr s hs=>
  have e:shT (.mk 26 s 0 [])=[sg sAMP,wd s]:=by rw [shT_mk];simp [shK]
  rw [e];exact z_al_cons (z_g_sg (by decide)) (z_al_cons (z_g_name hs) z_al_nil)
 | count=>rw [shT_mk];exact z_al_cons (z_g_word (by decide)) z_al_nil
 | toInt x hx ih=>
  have e:shT (.mk 30 [] 0 [x])=wd sINT::sg sLP::(shT x++[sg sRP]):=by rw [shT_mk];simp [shK]
  rw [e];exact z_al_cons (z_g_word (by decide)) (z_al_cons (z_g_sg (by decide)) (z_al_app ih (z_al_cons (z_g_sg (by decide)) z_al_nil)))
 | toLong x hx ih=>
  have e:shT (.mk 31 [] 0 [x])=wd sLONG::sg sLP::(shT x++[sg sRP]):=by rw [shT_mk];simp [shK]
  rw [e];exact z_al_cons (z_g_word (by decide)) (z_al_cons (z_g_sg (by decide)) (z_al_app ih (z_al_cons (z_g_sg (by decide)) z_al_nil)))
 | extra x hx ih=>
  have e:shT (.mk 34 [] 0 [x])=wd sEXTRA::sg sLP::(shT x++[sg sRP]):=by rw [shT_mk];simp [shK]
  rw [e];exact z_al_cons (z_g_word (by decide)) (z_al_cons (z_g_sg (by decide)) (z_al_app ih (z_al_cons (z_g_sg (by decide)) z_al_nil)))
 | make s l hs hl ih=>
  have e:shT (.mk 27 s 0 l)=wd s::sg sLB::(joinT (l.map shT)++[sg sRB]):=by rw [shT_mk];simp [shK]
  rw [e]
  refine z_al_cons (z_g_name hs) (z_al_cons (z_g_sg (by decide)) (z_al_app (z_al_join _ (fun x hx=>?_)) (z_al_cons (z_g_sg (by decide)) z_al_nil)))
  obtain ⟨y,hy,rfl⟩:=List.mem_map.1 hx
  exact ih y hy
 | dot s x hs hx ih=>
  have e:shT (.mk 24 s 0 [x])=atT (bindN x) 4 (shT x)++[sg sDOT,wd s]:=by rw [shT_mk];simp [shK,sh1]
  rw [e];exact z_al_app (z_al_at ih) (z_al_cons (z_g_sg (by decide)) (z_al_cons (z_g_name hs) z_al_nil))
 | call x l hx hl ih ihl=>
  have e:shT (.mk 25 [] 0 (x::l))=atT (bindN x) 4 (shT x)++rowT (l.map shT) false:=by rw [shT_mk];simp [shK,shC]
  rw [e];exact z_al_app (z_al_at ih) (z_al_row ihl)
 | neg x hx ih=>
  have e:shT (.mk 28 [] 0 [x])=sg sMINUS::atT (bindN x) 3 (shT x):=by rw [shT_mk];simp [shK,sh1]
  rw [e];exact z_al_cons (z_g_sg (by decide)) (z_al_at ih)
 | not x hx ih=>
  have e:shT (.mk 29 [] 0 [x])=sg sNOT::atT (bindN x) 3 (shT x):=by rw [shT_mk];simp [shK,sh1]
  rw [e];exact z_al_cons (z_g_sg (by decide)) (z_al_at ih)
 | op v a b hv ha hb iha ihb=>
  have e:shT (.mk 32 [] v [a,b])=atT (bindN a) (max (opBind v) 1) (shT a)++(sg (opSign v)::atT (bindN b) (opBind v+1) (shT b)):=by rw [shT_mk];simp [shK,sh2]
  rw [e];exact z_al_app (z_al_at iha) (z_al_cons (z_g_sg (z_op_in hv)) (z_al_at ihb))
theorem z_al_pl {x:Nd} (h:IsPl x):z_Al (shT x):=by
 induction h with
 | name s hs=>exact z_al_ex (IsEx.name s hs)
 | dot s x hs hx ih=>
  have e:shT (.mk 24 s 0 [x])=atT (bindN x) 4 (shT x)++[sg sDOT,wd s]:=by rw [shT_mk];simp [shK,sh1]
  rw [e];exact z_al_app (z_al_at ih) (z_al_cons (z_g_sg (by decide)) (z_al_cons (z_g_name hs) z_al_nil))
theorem z_al_ca {x:Nd} (h:IsCa x):z_Al (shT x):=by
 induction h with
 | name s hs=>exact z_al_ex (IsEx.name s hs)
 | dot s x hs hx ih=>
  have e:shT (.mk 24 s 0 [x])=atT (bindN x) 4 (shT x)++[sg sDOT,wd s]:=by rw [shT_mk];simp [shK,sh1]
  rw [e];exact z_al_app (z_al_at ih) (z_al_cons (z_g_sg (by decide)) (z_al_cons (z_g_name hs) z_al_nil))
 | call x l hx hl ih=>
  have e:shT (.mk 25 [] 0 (x::l))=atT (bindN x) 4 (shT x)++rowT (l.map shT) false:=by rw [shT_mk];simp [shK,shC]
  rw [e];exact z_al_app (z_al_at ih) (z_al_row (fun y hy=>z_al_ex (hl y hy)))
theorem z_al_block {l:List Nd} (h:∀ y,y∈l→z_Al (shT y)):z_Al (shT (.mk 13 [] 0 l)):=by
 rw [sh_block]
 exact z_al_app (z_al_app (z_al_cons (z_g_sg (by decide)) z_al_nil) (z_al_flat h)) (z_al_cons (z_g_sg (by decide)) z_al_nil)
theorem z_al_st {x:Nd} (h:IsSt x):z_Al (shT x):=by
 induction h with
 | var s t x hs ht hx=>
  have e:shT (.mk 14 s 0 [t,x])=shT t++(wd s::sg sEQ::(shT x++[sg sSEMI])):=by rw [shT_mk];simp [shK,lastT]
  rw [e];exact z_al_app (z_al_ty ht) (z_al_cons (z_g_name hs) (z_al_cons (z_g_sg (by decide)) (z_al_app (z_al_ex hx) (z_al_cons (z_g_sg (by decide)) z_al_nil))))
 | set p x hp hx=>
  have e:shT (.mk 15 [] 0 [p,x])=shT p++(sg sEQ::(shT x++[sg sSEMI])):=by rw [shT_mk];simp [shK,lastT]
  rw [e];exact z_al_app (z_al_pl hp) (z_al_cons (z_g_sg (by decide)) (z_al_app (z_al_ex hx) (z_al_cons (z_g_sg (by decide)) z_al_nil)))
 | if1 c l hc hl ih=>
  have e:shT (.mk 16 [] 0 [c,.mk 13 [] 0 l])=wd sIF::sg sLP::(shT c++(sg sRP::shT (.mk 13 [] 0 l))):=by rw [shT_mk];simp [shK,shI]
  rw [e];exact z_al_cons (z_g_word (by decide)) (z_al_cons (z_g_sg (by decide)) (z_al_app (z_al_ex hc) (z_al_cons (z_g_sg (by decide)) (z_al_block ih))))
 | if2 c l m hc hl hm ihl ihm=>
  have e:shT (.mk 16 [] 0 [c,.mk 13 [] 0 l,.mk 13 [] 0 m])=wd sIF::sg sLP::(shT c++(sg sRP::(shT (.mk 13 [] 0 l)++(wd sELSE::shT (.mk 13 [] 0 m))))):=by rw [shT_mk];simp [shK,shI]
  rw [e];exact z_al_cons (z_g_word (by decide)) (z_al_cons (z_g_sg (by decide)) (z_al_app (z_al_ex hc) (z_al_cons (z_g_sg (by decide)) (z_al_app (z_al_block ihl) (z_al_cons (z_g_word (by decide)) (z_al_block ihm))))))
 | while1 c l hc hl ih=>
  have e:shT (.mk 17 [] 0 [c,.mk 13 [] 0 l])=wd sWHILE::sg sLP::(shT c++(sg sRP::shT (.mk 13 [] 0 l))):=by rw [shT_mk];simp [shK,shW]
  rw [e];exact z_al_cons (z_g_word (by decide)) (z_al_cons (z_g_sg (by decide)) (z_al_app (z_al_ex hc) (z_al_cons (z_g_sg (by decide)) (z_al_block ih))))
 | ret x hx=>
  have e:shT (.mk 18 [] 0 [x])=wd sRET::(shT x++[sg sSEMI]):=by rw [shT_mk];simp [shK]
  rw [e];exact z_al_cons (z_g_word (by decide)) (z_al_app (z_al_ex hx) (z_al_cons (z_g_sg (by decide)) z_al_nil))
 | put x hx=>
  have e:shT (.mk 19 [] 0 [x])=wd sPUT::sg sLP::(shT x++[sg sRP,sg sSEMI]):=by rw [shT_mk];simp [shK]
  rw [e];exact z_al_cons (z_g_word (by decide)) (z_al_cons (z_g_sg (by decide)) (z_al_app (z_al_ex hx) (z_al_cons (z_g_sg (by decide)) (z_al_cons (z_g_sg (by decide)) z_al_nil))))
 | do1 x l hx hl=>
  have e:shT (.mk 20 [] 0 [.mk 25 [] 0 (x::l)])=shT (.mk 25 [] 0 (x::l))++[sg sSEMI]:=by rw [shT_mk];simp [shK]
  rw [e];exact z_al_app (z_al_ca (IsCa.call x l hx hl)) (z_al_cons (z_g_sg (by decide)) z_al_nil)
theorem z_al_pa {x:Nd} (h:IsPa x):z_Al (shT x):=by
 cases h with
 | param s t hs ht=>rw [sh_param];exact z_al_app (z_al_ty ht) (z_al_cons (z_g_name hs) z_al_nil)
theorem z_al_fi {x:Nd} (h:IsFi x):z_Al (shT x):=by
 cases h with
 | field s t hs ht=>rw [sh_field];exact z_al_app (z_al_ty ht) (z_al_cons (z_g_name hs) (z_al_cons (z_g_sg (by decide)) z_al_nil))
theorem z_al_static (st:Bool):z_Al (if st=true then [wd sSTATIC] else []):=by
 cases st
 ·exact z_al_nil
 ·exact z_al_cons (z_g_word (by decide)) z_al_nil
theorem z_al_de {x:Nd} (h:IsDe x):z_Al (shT x):=by
 cases h with
 | struct1 s l hs hne hl=>
  have e:shT (.mk 2 s 0 l)=wd sSTRUCT::wd s::sg sLB::((l.map shT).flatten++[sg sRB]):=by rw [shT_mk];simp [shK]
  rw [e];exact z_al_cons (z_g_word (by decide)) (z_al_cons (z_g_name hs) (z_al_cons (z_g_sg (by decide)) (z_al_app (z_al_flat (fun y hy=>z_al_fi (hl y hy))) (z_al_cons (z_g_sg (by decide)) z_al_nil))))
 | extern1 s l d t hs hl ht=>
  have e:shT (.mk 4 s (b2n d) (l++[t]))=wd sEXTERN::(shT t++(wd s::(rowT (l.map shT) d++[sg sSEMI]))):=by rw [shT_mk];simp [shK,lastT,b2n_one]
  rw [e];exact z_al_cons (z_g_word (by decide)) (z_al_app (z_al_ty ht) (z_al_cons (z_g_name hs) (z_al_app (z_al_row (fun y hy=>z_al_pa (hl y hy))) (z_al_cons (z_g_sg (by decide)) z_al_nil))))
 | outside s t hs ht=>
  have e:shT (.mk 5 s 0 [t])=wd sEXTERN::(shT t++[wd s,sg sSEMI]):=by rw [shT_mk];simp [shK]
  rw [e];exact z_al_cons (z_g_word (by decide)) (z_al_app (z_al_ty ht) (z_al_cons (z_g_name hs) (z_al_cons (z_g_sg (by decide)) z_al_nil)))
 | global s st t v hs ht h1 h2=>
  have e:shT (.mk 6 s (b2n st) [t,.mk 21 [] v []])=(if st=true then [wd sSTATIC] else [])++(shT t++(wd s::sg sEQ::(numT 2 v++[sg sSEMI]))):=by
   have e1:shT (.mk 21 [] v [])=numT 2 v:=by rw [shT_mk];simp [shK]
   rw [shT_mk];simp [shK,lastT,e1,b2n_odd]
  rw [e];exact z_al_app (z_al_static st) (z_al_app (z_al_ty ht) (z_al_cons (z_g_name hs) (z_al_cons (z_g_sg (by decide)) (z_al_app (z_g_numT h1 h2) (z_al_cons (z_g_sg (by decide)) z_al_nil)))))
 | globalL s st t v hs ht h1 h2=>
  have e:shT (.mk 6 s (b2n st) [t,.mk 22 [] v []])=(if st=true then [wd sSTATIC] else [])++(shT t++(wd s::sg sEQ::(numT 3 v++[sg sSEMI]))):=by
   have e1:shT (.mk 22 [] v [])=numT 3 v:=by rw [shT_mk];simp [shK]
   rw [shT_mk];simp [shK,lastT,e1,b2n_odd]
  rw [e];exact z_al_app (z_al_static st) (z_al_app (z_al_ty ht) (z_al_cons (z_g_name hs) (z_al_cons (z_g_sg (by decide)) (z_al_app (z_g_numL h1 h2) (z_al_cons (z_g_sg (by decide)) z_al_nil)))))
 | fun1 s st d l t b hs hl ht hb=>
  have e:shT (.mk 7 s (b2n st+2*b2n d) (l++[t]++[.mk 13 [] 0 b]))=(if st=true then [wd sSTATIC] else [])++(shT t++(wd s::(rowT (l.map shT) d++shT (.mk 13 [] 0 b)))):=by
   rw [shT_mk]
   have e1:((l++[t]++[Nd.mk 13 [] 0 b]).map shT).dropLast=(l++[t]).map shT:=by simp
   have e2:lastT ((l++[t]++[Nd.mk 13 [] 0 b]).map shT)=shT (.mk 13 [] 0 b):=by simp [lastT]
   have e3:((l++[t]).map shT).dropLast=l.map shT:=by simp
   have e4:lastT ((l++[t]).map shT)=shT t:=by simp [lastT]
   have e5:shK 7 s (b2n st+2*b2n d) (l++[t]++[Nd.mk 13 [] 0 b]) ((l++[t]++[Nd.mk 13 [] 0 b]).map shT)=(if (b2n st+2*b2n d) % 2=1 then [wd sSTATIC] else [])++(lastT ((l++[t]++[Nd.mk 13 [] 0 b]).map shT).dropLast++[wd s]++rowT ((l++[t]++[Nd.mk 13 [] 0 b]).map shT).dropLast.dropLast (decide (2≤b2n st+2*b2n d))++lastT ((l++[t]++[Nd.mk 13 [] 0 b]).map shT)):=by simp only [shK];rfl
   rw [e5,e1,e2,e3,e4,(b2n_two st d).2]
   simp only [(b2n_two st d).1]
   simp
  rw [e];exact z_al_app (z_al_static st) (z_al_app (z_al_ty ht) (z_al_cons (z_g_name hs) (z_al_app (z_al_row (fun y hy=>z_al_pa (hl y hy))) (z_al_block (fun y hy=>z_al_st (hb y hy))))))
theorem z_al_un {x:Nd} (h:IsUn x):z_Al (shT x):=by
 cases h with
 | unit l hl=>
  have e:shT (.mk 1 [] 0 l)=(l.map shT).flatten:=by rw [shT_mk];simp [shK]
  rw [e]
  exact z_al_flat (fun y hy=>z_al_de (hl y hy))
end Go.Proofs.YthcfianhdkolhaaGreatDoor.S
namespace Go.Proofs.YthcfianhdkolhaaGreatDoor.S
open Go.Proofs.YthcfianhdkolhaaGreatDoor.X (Has Fine Like scan rowEnd rowC rowCode rowText isL mostW mostL aboveB byteAt str sigN byteAt_str ba_ext insB raw signs Tok rawLen spB spB_len scan_shown scan_fine fine_len)
set_option linter.unusedVariables false
set_option linter.unusedSimpArgs false
def tkOf (l:List Tok):List Tk:=l.map fun k=>⟨k.kind,k.text.data.toList⟩
def toTok (t:Tk):Tok:=⟨t.kind,str t.text,0⟩
def toToks (l:List Tk):List Tok:=l.map toTok
theorem tkOf_like {l m:List Tok} (h:Like l m):tkOf l=tkOf m:=by
 have e:∀ l:List Tok,tkOf l=(l.map (fun k=>(k.kind,k.text))).map (fun (p:Int × ByteArray)=>(⟨p.1,p.2.data.toList⟩:Tk)):=fun l=>by
  unfold tkOf
  rw [List.map_map]
  rfl
 rw [e,e,h]
theorem tkOf_to (l:List Tk):tkOf (toToks l)=l:=by
 unfold tkOf toToks
 rw [List.map_map]
 exact List.map_id'' (fun t=>rfl) l
theorem fine_to {l:List Tk} (h:z_Al l):Fine (toToks l):=fun k hk=>by
 obtain ⟨t,ht,rfl⟩:=List.mem_map.1 hk
 exact h t ht
theorem raw_cost (t:Tk):(raw t.kind (str t.text)).size=t.raw:=by
 unfold raw Tk.raw
 split
 ·rename_i e
  rw [ByteArray.size_append]
  rfl
 ·rfl
theorem rawLen_to (l:List Tk):rawLen (toToks l)=cost l:=by
 induction l with
 | nil=>rfl
 | cons t r ih=>
  have e:rawLen (toToks (t::r))=(raw t.kind (str t.text)).size+rawLen (toToks r):=by simp [rawLen,toToks,toTok]
  rw [e,ih,raw_cost]
  rfl
theorem cost_tkOf (l:List Tok):cost (tkOf l)=rawLen l:=by
 induction l with
 | nil=>rfl
 | cons k r ih=>
  have e:rawLen (k::r)=(raw k.kind k.text).size+rawLen r:=by simp [rawLen]
  have e2:cost (tkOf (k::r))=Tk.raw ⟨k.kind,k.text.data.toList⟩+cost (tkOf r):=rfl
  rw [e,e2,ih,← raw_cost]
  rfl
def shown (n:Nd):List UInt8:=spB (toToks (shT n))
theorem shown_back {n:Nd} (h:IsUn n) (hl:(shown n).length≤4000):(scan (str (shown n))).2.1=0∧R (.unitL []) (tkOf (scan (str (shown n))).1) (.ok (.nd n) []):=by
 obtain ⟨h1,h2⟩:=scan_shown (fine_to (z_al_un h)) hl
 refine ⟨h1,?_⟩
 rw [show tkOf (scan (str (shown n))).1=shT n from (tkOf_like h2).trans (tkOf_to _)]
 exact back_unit h
theorem row_ok {x:ByteArray} {most:ByteArray} (ml:List UInt8) (hm:most=str ml) (hml:AllD ml∧10 ^ (ml.length - 1)≤valN ml 0) (h0:1≤x.size) (hc:rowC x most=0):0≤digits x.data.toList 0∧digits x.data.toList 0≤valN ml 0∧(decN (digits x.data.toList 0).toNat).length≤x.data.toList.length:=by
 obtain ⟨s,rfl⟩:∃ s,x=str s:=⟨x.data.toList,rfl⟩
 have es:(str s).data.toList=s:=by simp [str]
 rw [es]
 have hs0:s≠[]:=by rintro rfl;simp [str] at h0;exact absurd h0 (by decide)
 have hpos:0<s.length:=List.length_pos_iff.2 hs0
 subst hm
 unfold rowC at hc
 split at hc
 ·cases hc
 rename_i c1
 split at hc
 ·cases hc
 rename_i c2
 split at hc
 ·cases hc
 rename_i c3
 have hall:AllD s:=fun c hcm=>by
  obtain ⟨j,hj,rfl⟩:=List.mem_iff_getElem.1 hcm
  simp only [Bool.not_eq_true',Bool.not_eq_false] at c1
  have:=(List.all_eq_true.1 c1) j (List.mem_range.2 hj)
  rw [at_list hj,dig_same] at this
  unfold digB at this
  simp at this
  exact this
 have hz:NoZ s:=fun hl c hcm h48=>by
  refine c2 ⟨hl,?_⟩
  rw [at_list hpos]
  cases s with
  | nil=>exact absurd rfl hs0
  | cons a r=>simp at hcm;subst hcm;exact h48
 have hv:=digits_val s 0 hall
 have hv':digits s 0=valN s 0:=hv
 have hle:=not_above hall hml.1 hs0 hml.2 (by simpa using c3)
 rw [hv']
 refine ⟨by omega,by omega,?_⟩
 have e:((valN s 0:Nat):Int).toNat=valN s 0:=by omega
 rw [e,dec_of_val _ s rfl hall hs0 hz]
 exact Nat.le_refl _
theorem has_self (x:ByteArray):Has x 0 x:=⟨by omega,fun j _=>by rw [Nat.zero_add],fun h=>by omega⟩
theorem tk_ok {kind:Int} {text:ByteArray} (h:X.Good (raw kind text) kind text) (h1:1≤(raw kind text).size):TkOk ⟨kind,text.data.toList⟩:=by
 obtain ⟨e,_⟩:=h _ _ (has_self _)
 generalize raw kind text=x at *
 obtain ⟨w1,w2,w3,w4⟩:=lW_ok
 obtain ⟨l1,l2,l3,l4⟩:=lL_ok
 unfold X.look at e
 split at e
 ·injection e with e1 e2 e3 e4
  subst e2
  exact ⟨fun q=>by simp at q,fun q=>by simp at q⟩
 rename_i hl
 split at e
 ·rename_i hd
  obtain ⟨f1,f2,f3,f4⟩:=X.row_facts (t:=x) (i:=0) (by omega) (X.dig_ins hd)
  generalize x.extract 0 (rowEnd x 0)=row at *
  injection e with e1 e2 e3 e4
  cases hL:X.isL row with
  | false=>
   rw [hL] at e2
   have er:rowText row=row:=by unfold rowText;rw [hL];rfl
   rw [er] at e3
   subst e3
   have e2':(2:Int)=kind:=by simpa using e2
   subst e2'
   refine ⟨fun _=>?_,fun q=>by simp at q⟩
   have hc:rowC row mostW=0:=by unfold rowCode at e1;rw [er,hL] at e1;exact e1
   have:=row_ok lW rfl ⟨w1,by decide⟩ f2 hc
   rw [w4] at this
   exact this
  | true=>
   rw [hL] at e2
   have e2':(3:Int)=kind:=by simpa using e2
   subst e2'
   refine ⟨fun q=>by simp at q,fun _=>?_⟩
   have hc:rowC (rowText row) mostL=0:=by unfold rowCode at e1;rw [hL] at e1;exact e1
   have hsz:1≤(rowText row).size:=by
    have h2:2≤row.size:=by
     by_cases q:row.size=1
     ·unfold X.isL at hL
      rw [q] at hL
      simp only [Nat.sub_self,decide_eq_true_eq] at hL
      rw [f3] at hL
      rw [hL] at hd
      exact absurd hd (by decide)
     ·omega
    unfold rowText
    rw [hL,if_pos rfl,ByteArray.size_extract]
    omega
   rw [← e3]
   have:=row_ok lL rfl ⟨l1,by decide⟩ hsz hc
   rw [l4] at this
   exact this
 ·injection e with e1 e2 e3 e4
  subst e2
  exact ⟨fun q=>by simp at q,fun q=>by simp at q⟩
theorem scanned {t:ByteArray} (hc:(scan t).2.1=0):Wf (tkOf (scan t).1)∧cost (tkOf (scan t).1)≤t.size:=by
 obtain ⟨h1,h2⟩:=scan_fine t hc
 refine ⟨fun x hx=>?_,by rw [cost_tkOf];exact h2⟩
 obtain ⟨k,hk,rfl⟩:=List.mem_map.1 hx
 exact tk_ok (h1 k hk).1 (h1 k hk).2
theorem read_shown {t:ByteArray} {n:Nd} {r:List Tk} (hc:(scan t).2.1=0) (h:R (.unitL []) (tkOf (scan t).1) (.ok (.nd n) r)):IsUn n∧(shown n).length≤2*t.size:=by
 obtain ⟨h1,h2⟩:=scanned hc
 obtain ⟨h3,h4⟩:=R_unit h h1
 refine ⟨h3,?_⟩
 have h5:=fine_len (fine_to (z_al_un h3))
 rw [rawLen_to] at h5
 have h6:=spB_len (r:=toToks (shT n))
 rw [rawLen_to] at h6
 unfold shown
 omega
end Go.Proofs.YthcfianhdkolhaaGreatDoor.S
