/- XTake XLx -/
import Derived.Test.YthcfianhdkolhaaGreatDoorShelf
import Derived.Test.YthcfianhdkolhaaGreatDoorXSc
import Derived.Deep.RegionHeldLaw
import Derived.Test.YthcfianhdkolhaaGreatDoorXNum
import Derived.Lib.IndexAny
import Derived.Lib.Strings
namespace Go.Proofs.YthcfianhdkolhaaGreatDoor.X
open Go.RowKit
set_option maxRecDepth 100000
set_option maxHeartbeats 2000000
set_option linter.unusedVariables false
set_option linter.unusedSimpArgs false
variable {w0 w : World} {b : Nat} {t : ByteArray} {c p : Int} {i : Nat} {L : List Tok}
theorem clone_any (x:ByteArray) (w:World) (hx:x.size≤4000):Calls Tryz.prog 85 #[.string x] w fun e w'=>e=.returned (.string x)∧Below w.heap.size w w':=by
 have h:=fun w'=>Tryz.stringslite_Clone x w' (by omega)
 go_enter Tryz.func85,Tryz.ntmps85
 go_wp2_with fail
 go_at_call 111
 refine (h _).mono ?_
 rintro e w1 ⟨rfl,hb1⟩
 go_wp2_with fail
 go_ret
 exact ⟨rfl,hb1⟩
theorem own_block {w:World} {ob:Nat} {v:Value} {n:Nat} {xs:List Value} (h:w.ownsRow ob 44 3 v n xs):∀ k,v.ownBlock=some k→ob≤k∧∃ cur,w.heap[k]?=some (.cells cur 44 (0,0)):=by
 intro k hk
 rcases h.2 with ⟨rfl,_⟩|⟨g,cap,cu,rfl,hg,hh,r⟩
 ·simp [Value.ownBlock] at hk
 ·obtain rfl:g=k:=by simpa [Value.ownBlock] using hk
  exact ⟨hg,cu,hh⟩
theorem take_end {w1 w3:World} {v:Value} {k:Int} {x:ByteArray} {n g cap:Nat} (h:Sc w0 w1 b t c p i L) (hin:i+n≤t.size) (hn:1≤n) (h1:w1.heap[b]?=some (.cells #[.int .i64 c,.int .i64 p,.string t,.int .i64 i,v] 46 (0,0))) (hv:w1.ownsRow w0.heap.size 44 3 v L.length (toks L))
  (hown:w3.ownsRow w0.heap.size 44 3 (.slice (some ⟨g,0,none⟩) (L.length+1) cap) (L.length+1) (toks L++(⟨k,x,i⟩:Tok).cells)) (hg:(w1.alloc (.cells #[.int .i64 k,.string x,.int .i64 i] 44)).grownBy w3 v.ownBlock):
  w3.heap[b]?=some (.cells #[.int .i64 c,.int .i64 p,.string t,.int .i64 i,v] 46 (0,0))∧(w3.setCell ⟨b,4,none⟩ (.slice (some ⟨g,0,none⟩) (L.length+1) cap)).heap[b]?=some (.cells #[.int .i64 c,.int .i64 p,.string t,.int .i64 i,.slice (some ⟨g,0,none⟩) (L.length+1) cap] 46 (0,0)) ∧
   Sc w0 ((w3.setCell ⟨b,4,none⟩ (.slice (some ⟨g,0,none⟩) (L.length+1) cap)).setCell ⟨b,3,none⟩ (.int .i64 ((i:Int)+n))) b t c p (i+n) (L++[⟨k,x,i⟩]):=by
 have hlt:=h.lt
 have hne:v.ownBlock≠some b:=fun e=>by
  obtain ⟨_,cur,hc⟩:=own_block hv b e
  rw [h1] at hc
  simp at hc
 have k0:(w1.alloc (.cells #[.int .i64 k,.string x,.int .i64 i] 44)).heap[b]?=some (.cells #[.int .i64 c,.int .i64 p,.string t,.int .i64 i,v] 46 (0,0)):=(Below.heap_alloc _ _ _ hlt).trans h1
 have k3:w3.heap[b]?=some (.cells #[.int .i64 c,.int .i64 p,.string t,.int .i64 i,v] 46 (0,0)):=(hg.block b (by simp;omega) (fun e=>hne e.symm)).trans k0
 have k4:(w3.setCell ⟨b,4,none⟩ (.slice (some ⟨g,0,none⟩) (L.length+1) cap)).heap[b]?=some (.cells #[.int .i64 c,.int .i64 p,.string t,.int .i64 i,.slice (some ⟨g,0,none⟩) (L.length+1) cap] 46 (0,0)):=(heap_setCell_same w3 b 4 _ 46 _ k3).trans rfl
 have b3:Below w0.heap.size w0 w3:=(h.below.alloc h.below.size _).grown hg (by have:=h.below.size;simp;omega) (fun q hq=>(own_block hv q hq).1)
 have hm:=h.many
 refine ⟨k3,k4,h.len,hin,by simp;omega,h.base,⟨_,(heap_setCell_same _ b 3 _ 46 _ k4).trans rfl,?_⟩,(b3.setCell h.base _).setCell h.base _⟩
 rw [toks_app,show (L++[(⟨k,x,i⟩:Tok)]).length=L.length+1 by simp]
 exact own_set (own_set hown k3) k4
theorem take_any (h:Sc w0 w b t c p i L) (k:Int) (x:ByteArray) (n:Nat) (hn:1≤n) (hin:i+n≤t.size) (hx:x.size≤4000):Calls Tryz.prog 61 #[.pointer (some ⟨b,0,none⟩),.int .i64 k,.string x,.int .i64 n] w fun e w'=>(∃ v,e=.returned v)∧Sc w0 w' b t c p (i+n) (L++[⟨k,x,i⟩]):=by
 have hcl:=fun w'=>clone_any x w' hx
 have HS:=hide h
 have hlen:=h.len
 clear h
 go_enter Tryz.func61,Tryz.ntmps61
 go_wp2_with fail
 have hd:Sc w0 w.drew b t c p i L:=HS.out.kept (Below.refl _ _).drew
 have HD:=hide hd
 obtain ⟨v,h1,h2⟩:=hd.blk
 have hc:=cells_at h1
 have H1:=hide h1
 have H2:=hide h2
 have hfr:=frozen_at h1
 have hmany:=hd.many
 clear h1 h2 hd
 obtain ⟨i0,hi,hz0,hz1,hz2⟩:=info_parts info44
 have hwn:IntKind.i64.wrap ((i:Int)+n)=(i:Int)+n:=by rw [IntKind.wrap_i64];omega
 refine wp_region_held_drew (S:=fun w'=>w'.cell? ⟨b,3,none⟩=some (.int .i64 i)) (by kernel_rfl) (hc 3) (fun hHeld=>?_)
 refine tq 0 ?_
 simp only [qq]
 refine tq 1 ?_
 simp only [qq]
 refine tq 2 ?_
 simp only [qq]
 refine tq 3 ?_
 simp only [qq]
 refine tq 5 ?_
 simp only [qq]
 refine tq 6 ?_
 simp only [qq]
 refine tq 8 ?_
 simp only [qq]
 refine tq 9 ?_
 simp only [qq]
 refine tq 10 ?_
 simp only [qq]
 refine tq 11 ?_
 simp only [qq]
 refine rq2 4 7 (fun K hK=>?_) fun K hK=>?_
 ·have hcw:=hc
  go_simp
  refine hK.out _ _ (hc 3) (fun hHeld1=>?_)
  clear hK K hcw
  try simp only [qq]
  refine rq 7 fun K hK=>?_
  go_simp
  refine (hcl _).mono ?_
  rintro e w1 ⟨rfl,hb1⟩
  have HS1:=hide (HD.out.kept hb1)
  have hbk1:w1.heap[b]?=some (.cells #[.int .i64 c,.int .i64 p,.string t,.int .i64 i,v] 46 (0,0)):=(hb1.block b HD.out.lt).trans H1.out
  have HOw1:=hide (own_below H2.out hb1)
  have hc1:=cells_at hbk1
  have HBk1:=hide hbk1
  clear hbk1 hb1
  refine hK.out _ _ (hc1 3) (fun hHeld2=>?_)
  clear hK K
  try simp only [qq]
  refine tq 12 ?_
  simp only [qq]
  refine rq 13 fun K hK=>?_
  go_simp
  have hB:(w1.alloc (.cells #[.int .i64 k,.string x,.int .i64 i] 44)).heap[w1.heap.size]?=some (.cells #[.int .i64 k,.string x,.int .i64 i] 44 (0,0)):=heap_alloc_new w1 _
  have hc2:∀ o,(w1.alloc (.cells #[.int .i64 k,.string x,.int .i64 i] 44)).cell? ⟨b,o,none⟩=(#[Value.int .i64 c,.int .i64 p,.string t,.int .i64 i,v])[o]?:=fun o=>(World.cell?_alloc_past _ _ _ HS1.out.lt).trans (hc1 o)
  have HO2:=hide (own_below HOw1.out ((Below.refl w1.heap.size w1).alloc (Nat.le_refl _) (.cells #[.int .i64 k,.string x,.int .i64 i] 44)))
  refine hK.out _ _ (hc2 3) (fun hHeld3=>?_)
  clear hK K
  try simp only [qq]
  refine rq 14 fun K hK=>?_
  refine step_append_lies _ rfl (.tmp 12) (.tmp 21) 35 rfl w0.heap.size 44 i0 _ 3 32 Tryz.underlying35 hi hz0 hz1 hz2 rfl (by decide) v L.length (toks L) rfl HO2.out ⟨w1.heap.size,0,none⟩ 1 1 [.int .i64 k,.string x,.int .i64 i] rfl rfl (World.news_of_block hB) ?_ (by decide) (by unfold maxLen;omega) (by omega) (by have:=HS1.out.below.size;simp;omega) _ rfl ?_
  ·intro u hu;simp at hu;rcases hu with rfl|rfl|rfl<;>rfl
  intro g cap w3 hown3 hgr _ _
  obtain ⟨k3,k4,kS⟩:=take_end HS1.out hin hn HBk1.out HOw1.out hown3 hgr
  have HE:=hide kS
  have hc3:=cells_at k3
  have hf3:=frozen_at k3
  have hc4:=cells_at k4
  have hf4:=frozen_at k4
  clear kS hown3 hgr hB hc2 hc1 hc
  refine hK.out _ _ (hc3 3) (fun hHeld4=>?_)
  clear hK K
  try simp only [qq]
  refine tq 15 ?_
  simp only [qq]
  refine tq 16 ?_
  simp only [qq]
  refine rq 17 fun K hK=>?_
  go_simp
  refine hK.out _ _ (hc4 3) (fun hHeld5=>?_)
  clear hK K
  refine wpAnyH_done (by kernel_rfl) ?_ _
  clear hHeld1 hHeld2 hHeld3 hHeld4 hHeld5
  generalize hw4:w3.setCell ⟨b,4,none⟩ (.slice (some ⟨g,0,none⟩) (L.length+1) cap)=w4 at *
  clear hc3 hf3 k3 k4 hw4
  go_wp2_with fail
  go_end0
  exact ⟨⟨_,rfl⟩,HE.out⟩
 ·go_simp
  refine (hcl _).mono ?_
  rintro e w1 ⟨rfl,hb1⟩
  have HS1:=hide (HD.out.kept hb1)
  have hbk1:w1.heap[b]?=some (.cells #[.int .i64 c,.int .i64 p,.string t,.int .i64 i,v] 46 (0,0)):=(hb1.block b HD.out.lt).trans H1.out
  have HOw1:=hide (own_below H2.out hb1)
  have hc1:=cells_at hbk1
  have HBk1:=hide hbk1
  clear hbk1 hb1
  refine hK.out _ _ (hc1 3) (fun hHeld1=>?_)
  clear hK K
  try simp only [qq]
  refine tq 12 ?_
  simp only [qq]
  refine rq2 4 13 (fun K hK=>?_) fun K hK=>?_
  ·have hcw:=hc1
   go_simp
   refine hK.out _ _ (hc1 3) (fun hHeld2=>?_)
   clear hK K hcw
   try simp only [qq]
   refine rq 13 fun K hK=>?_
   go_simp
   have hB:(w1.alloc (.cells #[.int .i64 k,.string x,.int .i64 i] 44)).heap[w1.heap.size]?=some (.cells #[.int .i64 k,.string x,.int .i64 i] 44 (0,0)):=heap_alloc_new w1 _
   have hc2:∀ o,(w1.alloc (.cells #[.int .i64 k,.string x,.int .i64 i] 44)).cell? ⟨b,o,none⟩=(#[Value.int .i64 c,.int .i64 p,.string t,.int .i64 i,v])[o]?:=fun o=>(World.cell?_alloc_past _ _ _ HS1.out.lt).trans (hc1 o)
   have HO2:=hide (own_below HOw1.out ((Below.refl w1.heap.size w1).alloc (Nat.le_refl _) (.cells #[.int .i64 k,.string x,.int .i64 i] 44)))
   refine hK.out _ _ (hc2 3) (fun hHeld3=>?_)
   clear hK K
   try simp only [qq]
   refine rq 14 fun K hK=>?_
   refine step_append_lies _ rfl (.tmp 12) (.tmp 21) 35 rfl w0.heap.size 44 i0 _ 3 32 Tryz.underlying35 hi hz0 hz1 hz2 rfl (by decide) v L.length (toks L) rfl HO2.out ⟨w1.heap.size,0,none⟩ 1 1 [.int .i64 k,.string x,.int .i64 i] rfl rfl (World.news_of_block hB) ?_ (by decide) (by unfold maxLen;omega) (by omega) (by have:=HS1.out.below.size;simp;omega) _ rfl ?_
   ·intro u hu;simp at hu;rcases hu with rfl|rfl|rfl<;>rfl
   intro g cap w3 hown3 hgr _ _
   obtain ⟨k3,k4,kS⟩:=take_end HS1.out hin hn HBk1.out HOw1.out hown3 hgr
   have HE:=hide kS
   have hc3:=cells_at k3
   have hf3:=frozen_at k3
   have hc4:=cells_at k4
   have hf4:=frozen_at k4
   clear kS hown3 hgr hB hc2 hc1 hc
   refine hK.out _ _ (hc3 3) (fun hHeld4=>?_)
   clear hK K
   try simp only [qq]
   refine tq 15 ?_
   simp only [qq]
   refine tq 16 ?_
   simp only [qq]
   refine rq 17 fun K hK=>?_
   go_simp
   refine hK.out _ _ (hc4 3) (fun hHeld5=>?_)
   clear hK K
   refine wpAnyH_done (by kernel_rfl) ?_ _
   clear hHeld1 hHeld2 hHeld3 hHeld4 hHeld5
   generalize hw4:w3.setCell ⟨b,4,none⟩ (.slice (some ⟨g,0,none⟩) (L.length+1) cap)=w4 at *
   clear hc3 hf3 k3 k4 hw4
   go_wp2_with fail
   go_end0
   exact ⟨⟨_,rfl⟩,HE.out⟩
  ·go_simp
   have hB:(w1.alloc (.cells #[.int .i64 k,.string x,.int .i64 i] 44)).heap[w1.heap.size]?=some (.cells #[.int .i64 k,.string x,.int .i64 i] 44 (0,0)):=heap_alloc_new w1 _
   have hc2:∀ o,(w1.alloc (.cells #[.int .i64 k,.string x,.int .i64 i] 44)).cell? ⟨b,o,none⟩=(#[Value.int .i64 c,.int .i64 p,.string t,.int .i64 i,v])[o]?:=fun o=>(World.cell?_alloc_past _ _ _ HS1.out.lt).trans (hc1 o)
   have HO2:=hide (own_below HOw1.out ((Below.refl w1.heap.size w1).alloc (Nat.le_refl _) (.cells #[.int .i64 k,.string x,.int .i64 i] 44)))
   refine hK.out _ _ (hc2 3) (fun hHeld2=>?_)
   clear hK K
   try simp only [qq]
   refine rq 4 fun K hK=>?_
   have hcw:=hc2
   go_simp
   refine hK.out _ _ (hc2 3) (fun hHeld3=>?_)
   clear hK K hcw
   try simp only [qq]
   refine rq 14 fun K hK=>?_
   refine step_append_lies _ rfl (.tmp 12) (.tmp 21) 35 rfl w0.heap.size 44 i0 _ 3 32 Tryz.underlying35 hi hz0 hz1 hz2 rfl (by decide) v L.length (toks L) rfl HO2.out ⟨w1.heap.size,0,none⟩ 1 1 [.int .i64 k,.string x,.int .i64 i] rfl rfl (World.news_of_block hB) ?_ (by decide) (by unfold maxLen;omega) (by omega) (by have:=HS1.out.below.size;simp;omega) _ rfl ?_
   ·intro u hu;simp at hu;rcases hu with rfl|rfl|rfl<;>rfl
   intro g cap w3 hown3 hgr _ _
   obtain ⟨k3,k4,kS⟩:=take_end HS1.out hin hn HBk1.out HOw1.out hown3 hgr
   have HE:=hide kS
   have hc3:=cells_at k3
   have hf3:=frozen_at k3
   have hc4:=cells_at k4
   have hf4:=frozen_at k4
   clear kS hown3 hgr hB hc2 hc1 hc
   refine hK.out _ _ (hc3 3) (fun hHeld4=>?_)
   clear hK K
   try simp only [qq]
   refine tq 15 ?_
   simp only [qq]
   refine tq 16 ?_
   simp only [qq]
   refine rq 17 fun K hK=>?_
   go_simp
   refine hK.out _ _ (hc4 3) (fun hHeld5=>?_)
   clear hK K
   refine wpAnyH_done (by kernel_rfl) ?_ _
   clear hHeld1 hHeld2 hHeld3 hHeld4 hHeld5
   generalize hw4:w3.setCell ⟨b,4,none⟩ (.slice (some ⟨g,0,none⟩) (L.length+1) cap)=w4 at *
   clear hc3 hf3 k3 k4 hw4
   go_wp2_with fail
   go_end0
   exact ⟨⟨_,rfl⟩,HE.out⟩
end Go.Proofs.YthcfianhdkolhaaGreatDoor.X
namespace Go.Proofs.YthcfianhdkolhaaGreatDoor.X
open Go.RowKit
set_option linter.unusedVariables false
set_option linter.unusedSimpArgs false
theorem list_ne (x:ByteArray) (h:1≤x.size):x.data.toList≠[]:=fun e=>by
 have h2:=Lib.size_eq x
 rw [e,List.length_nil] at h2
 omega
theorem last_of (x:ByteArray) (h:1≤x.size):∃ r c,x.data.toList=r++[c]∧r.length=x.size - 1∧byteAt x (x.size - 1)=c.toNat:=by
 have hne:x.data.toList≠[]:=list_ne x (by omega)
 have hl:=Lib.size_eq x
 refine ⟨x.data.toList.dropLast,x.data.toList.getLast hne,(List.dropLast_concat_getLast hne).symm,by rw [List.length_dropLast];omega,?_⟩
 have hx:x.size - 1<x.size:=by omega
 unfold byteAt
 have e:x.data[x.size - 1]?=some (x.data.toList.getLast hne):=by
  rw [← Array.getElem?_toList,List.getLast_eq_getElem]
  rw [List.getElem?_eq_getElem (by omega)]
  congr 1
  all_goals (try congr 1)
  all_goals (try omega)
 rw [e]
theorem suf_isL (x:ByteArray) (h:1≤x.size):Lib.hasSuffix x.data.toList [76]=isL x:=by
 obtain ⟨r,c,e,_,hb⟩:=last_of x h
 unfold Lib.hasSuffix isL
 rw [e,hb]
 have:([76]:List UInt8).isSuffixOf (r++[c])=(76 == c):=by simp [List.isSuffixOf,List.isPrefixOf]
 rw [this]
 by_cases q:c.toNat=76
 ·have:c=76:=UInt8.toNat_inj.1 q
  subst this
  rfl
 ·have q2:¬ (76:UInt8)=c:=fun e=>q (by rw [← e];rfl)
  rw [decide_eq_false q]
  simpa using q2
theorem trim_text (x:ByteArray) (h:1≤x.size):(⟨(Lib.trimSuffix x.data.toList [76]).toArray⟩:ByteArray)=rowText x:=by
 unfold Lib.trimSuffix rowText
 rw [suf_isL x h]
 cases isL x with
 | false=>rfl
 | true=>
  apply ByteArray.ext
  apply Array.toList_inj.1
  rw [if_pos rfl,if_pos rfl,Lib.extract_data]
  rw [List.drop_zero,Nat.sub_zero,Lib.size_eq]
  rfl
theorem text_size (x:ByteArray) (h:1≤x.size):(rowText x).size=if isL x then x.size - 1 else x.size:=by
 unfold rowText
 cases isL x with
 | false=>rfl
 | true=>rw [if_pos rfl,if_pos rfl,ByteArray.size_extract];omega
theorem text_pos (x:ByteArray) (h:1≤x.size) (hd:digB (byteAt x 0)=true):1≤(rowText x).size:=by
 rw [text_size x h]
 cases hL:isL x with
 | false=>exact h
 | true=>
  have h2:2≤x.size:=by
   by_cases q:x.size=1
   ·unfold isL at hL
    rw [show x.size - 1=0 by omega] at hL
    have:=of_decide_eq_true hL
    rw [this] at hd
    exact absurd hd (by decide)
   ·omega
  rw [if_pos rfl]
  omega
def decB (x:ByteArray):Bool:=((List.range x.size).all fun i=>digB (byteAt x i)) && (decide (x.size=1) || !decide (byteAt x 0=48))
theorem rowC_bad (x m:ByteArray) (h1:1≤x.size) (h:decB x=false):rowC x m=2:=by
 unfold decB at h
 unfold rowC
 cases ha:((List.range x.size).all fun i=>digB (byteAt x i)) with
 | false=>rfl
 | true=>
  rw [ha,Bool.true_and,Bool.or_eq_false_iff] at h
  have e1:x.size≠1:=of_decide_eq_false h.1
  have e2:byteAt x 0=48:=by simpa using h.2
  rw [if_neg (by simp),if_pos ⟨by omega,e2⟩]
theorem byteAt_list (x:ByteArray) (i:Nat) (c:UInt8) (h:x.data.toList[i]?=some c):byteAt x i=c.toNat:=by
 unfold byteAt
 rw [← Array.getElem?_toList,h]
theorem decB_all {x:ByteArray} (h:decB x=true):AllD x.data.toList∧(1<x.data.toList.length→∀ c,x.data.toList.head?=some c→c.toNat≠48):=by
 unfold decB at h
 rw [Bool.and_eq_true] at h
 refine ⟨fun c hc=>?_,fun hl c hc e=>?_⟩
 ·obtain ⟨i,hi,e⟩:=List.getElem_of_mem hc
  have hb:=byteAt_list x i c (by rw [List.getElem?_eq_getElem hi,e])
  have:=List.all_eq_true.1 h.1 i (List.mem_range.2 (by rw [Lib.size_eq];exact hi))
  rw [hb] at this
  unfold digB at this
  simpa using this
 ·have hb:=byteAt_list x 0 c (by rw [← List.head?_eq_getElem?];exact hc)
  have h2:=h.2
  rw [hb,e] at h2
  rw [← Lib.size_eq] at hl
  simp at h2
  omega
theorem most_all:AllD mostW.data.toList∧AllD mostL.data.toList:=by
 constructor<;>(intro c hc;revert c hc;decide)
theorem above_num (x m:ByteArray) (h1:1≤x.size) (h:decB x=true) (hm:AllD m.data.toList) (hmz:∀ c,m.data.toList.head?=some c→c.toNat≠48) (hmn:m.data.toList≠[]):aboveB x m=decide (valN m.data.toList 0<valN x.data.toList 0):=by
 have hxn:x.data.toList≠[]:=list_ne x (by omega)
 rw [← above_val (decB_all h).1 (decB_all h).2 hm hmz hmn hxn]
 unfold aboveB
 rw [Lib.toList_data,Lib.toList_data,Lib.size_eq,Lib.size_eq]
theorem rowC_w (x:ByteArray) (h1:1≤x.size) (h:decB x=true):(Lib.parseIntB 32 x.data.toList=.range∧rowC x mostW=6)∨((∃ v,Lib.parseIntB 32 x.data.toList=.ok v)∧rowC x mostW=0):=by
 have hxn:x.data.toList≠[]:=list_ne x (by omega)
 have hA:=above_num x mostW h1 h most_all.1 (by intro c hc;revert c hc;decide) (by decide)
 have hr:rowC x mostW=if aboveB x mostW then 6 else 0:=by
  unfold decB at h
  rw [Bool.and_eq_true] at h
  unfold rowC
  rw [h.1,if_neg (by simp),if_neg]
  intro q
  have h2:=h.2
  rw [q.2] at h2
  simp at h2
  omega
 have hv:valN mostW.data.toList 0=2147483647:=by decide
 rw [hr,hA,hv,int_val 32 (by omega) x.data.toList (decB_all h).1 hxn]
 by_cases q:2147483647<valN x.data.toList 0
 ·left
  rw [decide_eq_true q,if_pos (by omega)]
  exact ⟨rfl,rfl⟩
 ·right
  rw [decide_eq_false q,if_neg (by omega)]
  exact ⟨⟨_,rfl⟩,rfl⟩
theorem rowC_l (x:ByteArray) (h1:1≤x.size) (h:decB x=true):(Lib.parseIntB 64 x.data.toList=.range∧rowC x mostL=6)∨((∃ v,Lib.parseIntB 64 x.data.toList=.ok v)∧rowC x mostL=0):=by
 have hxn:x.data.toList≠[]:=list_ne x (by omega)
 have hA:=above_num x mostL h1 h most_all.2 (by intro c hc;revert c hc;decide) (by decide)
 have hr:rowC x mostL=if aboveB x mostL then 6 else 0:=by
  unfold decB at h
  rw [Bool.and_eq_true] at h
  unfold rowC
  rw [h.1,if_neg (by simp),if_neg]
  intro q
  have h2:=h.2
  rw [q.2] at h2
  simp at h2
  omega
 have hv:valN mostL.data.toList 0=9223372036854775807:=by decide
 rw [hr,hA,hv,int_val 64 (by omega) x.data.toList (decB_all h).1 hxn]
 by_cases q:9223372036854775807<valN x.data.toList 0
 ·left
  rw [decide_eq_true q,if_pos (by omega)]
  exact ⟨rfl,rfl⟩
 ·right
  rw [decide_eq_false q,if_neg (by omega)]
  exact ⟨⟨_,rfl⟩,rfl⟩
theorem pre_is (s:ByteArray) (j:Nat):pre s j=(signs.getD j []).isPrefixOf s.data.toList:=by
 unfold pre
 rw [Lib.toList_data (sigN j),Lib.extract_toList,List.drop_zero,Nat.sub_zero]
 have e:(sigN j).size=(sigN j).data.toList.length:=Lib.size_eq _
 have e2:(sigN j).data.toList=signs.getD j []:=rfl
 rw [e,e2,Lib.size_eq s]
 exact Lib.hasPrefix_of_take s.data.toList (signs.getD j [])
def chars:List UInt8:=[123,125,40,41,59,44,46,61,60,43,45,42,47,37,38,124,94,33]
theorem sign_dots (s:ByteArray) (h:Lib.hasPrefix s.data.toList [46,46,46]=true):signOf s=⟨#[46,46,46]⟩:=by
 unfold signOf signFrom
 rw [pre_is]
 have e:(signs.getD 0 [])=[46,46,46]:=rfl
 rw [e,if_pos (show ([46,46,46]:List UInt8).isPrefixOf s.data.toList=true from h)]
 rfl
theorem sign_eqs (s:ByteArray) (h0:Lib.hasPrefix s.data.toList [46,46,46]=false) (h:Lib.hasPrefix s.data.toList [61,61]=true):signOf s=⟨#[61,61]⟩:=by
 have h0':pre s 0=false:=by rw [pre_is];exact h0
 have h1':pre s 1=true:=by rw [pre_is];exact h
 unfold signOf signFrom signFrom
 rw [h0',h1']
 rfl
theorem pre_one (s:ByteArray) (c:UInt8) (r:List UInt8) (hs:s.data.toList=c::r) (j:Nat) (d:UInt8) (hj:signs.getD j []=[d]):pre s j=(d == c):=by
 rw [pre_is,hs,hj]
 simp [List.isPrefixOf]
theorem sign_one (s:ByteArray) (c:UInt8) (r:List UInt8) (hs:s.data.toList=c::r) (h0:Lib.hasPrefix s.data.toList [46,46,46]=false) (h1:Lib.hasPrefix s.data.toList [61,61]=false) (hc:chars.contains c=true):signOf s=⟨#[c]⟩:=by
 have h0':pre s 0=false:=by rw [pre_is];exact h0
 have h1':pre s 1=false:=by rw [pre_is];exact h1
 have hp:=pre_one s c r hs
 have h2:=hp 2 123 rfl
 have h3:=hp 3 125 rfl
 have h4:=hp 4 40 rfl
 have h5:=hp 5 41 rfl
 have h6:=hp 6 59 rfl
 have h7:=hp 7 44 rfl
 have h8:=hp 8 46 rfl
 have h9:=hp 9 61 rfl
 have h10:=hp 10 60 rfl
 have h11:=hp 11 43 rfl
 have h12:=hp 12 45 rfl
 have h13:=hp 13 42 rfl
 have h14:=hp 14 47 rfl
 have h15:=hp 15 37 rfl
 have h16:=hp 16 38 rfl
 have h17:=hp 17 124 rfl
 have h18:=hp 18 94 rfl
 have h19:=hp 19 33 rfl
 clear hp
 rw [List.contains_iff_mem] at hc
 simp only [chars,List.mem_cons,List.not_mem_nil,or_false] at hc
 unfold signOf
 simp only [signFrom,h0',h1',h2,h3,h4,h5,h6,h7,h8,h9,h10,h11,h12,h13,h14,h15,h16,h17,h18,h19]
 rcases hc with rfl|rfl|rfl|rfl|rfl|rfl|rfl|rfl|rfl|rfl|rfl|rfl|rfl|rfl|rfl|rfl|rfl|rfl<;>rfl
theorem sign_none (s:ByteArray) (c:UInt8) (r:List UInt8) (hs:s.data.toList=c::r) (h0:Lib.hasPrefix s.data.toList [46,46,46]=false) (h1:Lib.hasPrefix s.data.toList [61,61]=false) (hc:chars.contains c=false):signOf s=⟨#[]⟩:=by
 have hp:=pre_one s c r hs
 have hne:∀ d,d∈chars→(d == c)=false:=fun d hd=>by
  rw [beq_eq_false_iff_ne]
  rintro rfl
  rw [List.contains_iff_mem.2 hd] at hc
  cases hc
 refine signFrom_skip s 20 0 (fun i _ hi=>?_)
 have:i=0∨i=1∨i=2∨i=3∨i=4∨i=5∨i=6∨i=7∨i=8∨i=9∨i=10∨i=11∨i=12∨i=13∨i=14∨i=15∨i=16∨i=17∨i=18∨i=19:=by omega
 rcases this with rfl|rfl|rfl|rfl|rfl|rfl|rfl|rfl|rfl|rfl|rfl|rfl|rfl|rfl|rfl|rfl|rfl|rfl|rfl|rfl
 ·rw [pre_is];exact h0
 ·rw [pre_is];exact h1
 all_goals exact (hp _ _ rfl).trans (hne _ (by decide))
end Go.Proofs.YthcfianhdkolhaaGreatDoor.X
