/- PeN -/
import Derived.Test.YthcfianhdkolhaaGreatDoorSign
import Derived.Test.YthcfianhdkolhaaGreatDoorPeC
import Derived.BigQuiet
import Derived.Deep.RegionHeldLaw
namespace Go.Proofs.YthcfianhdkolhaaGreatDoor.Y.Z.V
open Go.RowKit Go.Proofs.YthcfianhdkolhaaGreatDoor.S Go.Proofs.YthcfianhdkolhaaGreatDoor.T
open Go.Proofs.YthcfianhdkolhaaGreatDoor.X (Tok)
set_option maxRecDepth 100000
set_option maxHeartbeats 2000000
set_option linter.unusedVariables false
set_option linter.unusedSimpArgs false
variable {w : World} {b gg : Nat} {L : List Tok} {i : Nat}
theorem uq {P:Program} {ops:Array Oper} {Q:Exit→Act→World→Prop} {md:Region.Mode} {S:World→Prop} {oi:Oper} {fuel:Nat} {listed:Array Bool} {a:Act} {w:World} (i:Nat) (h:wpAnyH P md ops Q S fuel (listed.setIfInBounds i true) (a.put oi.dst undef) w) (hi:ops[i]?=some oi:=by exact rfl) (hs:Region.noSelect ops=true:=by kernel_rfl) (hf:Region.free md ops listed i=true:=by kernel_rfl) (hr:(Region.ready md ops listed).contains i=true:=by kernel_rfl) (hQ:∀ c a w,Q (.panic c) (a.put oi.dst undef) w→Q (.panic c) a w:=by exact fun _ _ _ h=>h) (hw:Region.wanted oi (yielded ops a.tmps)=false:=by rfl) (hS:S w:=by assumption):wpAnyH P md ops Q S (fuel+1) listed a w:=wpAnyH_take hi hs hf hr hQ (Or.inr ⟨hw,rfl⟩) hS h
theorem hide {p:Prop} (h:p):Hid p:=h
def tk (k:Tok):Tk:=⟨k.kind,k.text.data.toList⟩
def left (L:List Tok) (i:Nat):List Tk:=(L.drop i).map tk
structure Rd (gg:Nat) (w:World) (b:Nat) (L:List Tok) (i:Nat) (bad:Bool):Prop where
 len:L.length≤4000
 le:i≤L.length
 blk:∃ la lc,w.heap[b]?=some (.cells #[.slice la L.length lc,.int .i64 i,.bool bad] 41 (0,0)) ∧
  (0<L.length→∃ cur,la=some ⟨gg,0,none⟩∧w.heap[gg]?=some (.cells cur 44 (0,0))∧∀ j k,L[j]?=some k→cur[j*3]?=some (.int .i64 k.kind)∧cur[j*3+1]?=some (.string k.text)∧cur[j*3+2]?=some (.int .i64 k.at_))
theorem Rd.lt {w:World} {b:Nat} {L:List Tok} {i:Nat} {bad:Bool} (h:Rd gg w b L i bad):b<w.heap.size:=by
 obtain ⟨la,lc,h1,_⟩:=h.blk
 exact (Array.getElem?_eq_some_iff.1 h1).1
theorem Rd.kept {w w':World} {b:Nat} {L:List Tok} {i:Nat} {bad:Bool} (h:Rd gg w b L i bad) (hg:w.grownBy w' none):Rd gg w' b L i bad:=by
 obtain ⟨la,lc,h1,h2⟩:=h.blk
 refine ⟨h.len,h.le,la,lc,(hg.block b h.lt (by simp)).trans h1,fun hp=>?_⟩
 obtain ⟨cur,e1,e2,e3⟩:=h2 hp
 exact ⟨cur,e1,(hg.block gg (Array.getElem?_eq_some_iff.1 e2).1 (by simp)).trans e2,e3⟩
theorem Rd.step {w:World} {b:Nat} {L:List Tok} {i:Nat} {bad:Bool} (h:Rd gg w b L i bad) (hi:i<L.length):Rd gg (w.setCell ⟨b,1,none⟩ (.int .i64 ((i:Int)+1))) b L (i+1) bad∧w.grownBy (w.setCell ⟨b,1,none⟩ (.int .i64 ((i:Int)+1))) (some b):=by
 obtain ⟨la,lc,h1,h2⟩:=h.blk
 have hg:w.grownBy (w.setCell ⟨b,1,none⟩ (.int .i64 ((i:Int)+1))) (some b):=⟨rfl,rfl,rfl,by simp [World.setCell],fun k _ hk=>Below.heap_setCell _ _ _ k (fun e=>hk (by rw [e]))⟩
 refine ⟨⟨h.len,hi,la,lc,(heap_setCell_same w b 1 _ 41 _ h1).trans rfl,fun hp=>?_⟩,hg⟩
 obtain ⟨cur,e1,e2,e3⟩:=h2 hp
 refine ⟨cur,e1,(hg.block gg (Array.getElem?_eq_some_iff.1 e2).1 (fun e=>?_)).trans e2,e3⟩
 obtain rfl:gg=b:=by simpa using e
 rw [h1] at e2
 simp at e2
theorem Rd.fail {w:World} {b:Nat} {L:List Tok} {i:Nat} {bad:Bool} (h:Rd gg w b L i bad):Rd gg (w.setCell ⟨b,2,none⟩ (.bool true)) b L i true∧w.grownBy (w.setCell ⟨b,2,none⟩ (.bool true)) (some b):=by
 obtain ⟨la,lc,h1,h2⟩:=h.blk
 have hg:w.grownBy (w.setCell ⟨b,2,none⟩ (.bool true)) (some b):=⟨rfl,rfl,rfl,by simp [World.setCell],fun k _ hk=>Below.heap_setCell _ _ _ k (fun e=>hk (by rw [e]))⟩
 refine ⟨⟨h.len,h.le,la,lc,(heap_setCell_same w b 2 _ 41 _ h1).trans rfl,fun hp=>?_⟩,hg⟩
 obtain ⟨cur,e1,e2,e3⟩:=h2 hp
 refine ⟨cur,e1,(hg.block gg (Array.getElem?_eq_some_iff.1 e2).1 (fun e=>?_)).trans e2,e3⟩
 obtain rfl:gg=b:=by simpa using e
 rw [h1] at e2
 simp at e2
theorem left_end {L:List Tok} {i:Nat} (hi:L.length≤i):left L i=[]:=by unfold left;rw [List.drop_eq_nil_of_le hi];rfl
theorem fail_any {w:World} {b:Nat} {L:List Tok} {i:Nat} {bad:Bool} (h:Rd gg w b L i bad):Calls Tryz.prog 52 #[.pointer (some ⟨b,0,none⟩)] w fun e w'=>(∃ v,e=.returned v)∧Rd gg w' b L i true∧w.grownBy w' (some b):=by
 obtain ⟨r1,r2⟩:=h.fail
 obtain ⟨la,lc,h1,h2⟩:=h.blk
 have hf:=frozen_at h1
 have hc:=cells_at h1
 have HR:=ħ (And.intro r1 r2)
 clear r1 r2 h2 h h1
 go_enter Tryz.func52,Tryz.ntmps52
 go_wp2_with fail
 go_end0
 exact ⟨⟨_,rfl⟩,HR.out.1,HR.out.2⟩
theorem grown_app {a b c:World} {r:Option Nat} (h:a.grownBy b r) (k:b.grownBy c r):a.grownBy c r:=⟨k.os.trans h.os,k.tape.trans h.tape,k.output.trans h.output,Nat.le_trans h.size k.size,fun i hi hn=>(k.block i (Nat.lt_of_lt_of_le hi h.size) hn).trans (h.block i hi hn)⟩
def IsN (v:Value):Prop:=v=.agg #[.int .i64 0,.string ⟨#[]⟩,.int .i64 0,.slice none 0 0]
def BadN (gg:Nat) (w:World) (b:Nat) (L:List Tok) (i:Nat) (e:Ending) (w':World):Prop:=w.grownBy w' (some b)∧∃ v,e=.returned v∧IsN v∧Rd gg w' b L i true
theorem Rd.other {w w':World} {b:Nat} {L:List Tok} {i:Nat} {bad:Bool} (h:Rd gg w b L i bad) (hb:w'.heap[b]?=w.heap[b]?) (hk:∀ (k:Nat) (cur:Array Value),w.heap[k]?=some (Obj.cells cur 44 (0,0))→w'.heap[k]?=w.heap[k]?):Rd gg w' b L i bad:=by
 obtain ⟨la,lc,h1,h2⟩:=h.blk
 refine ⟨h.len,h.le,la,lc,hb.trans h1,fun hp=>?_⟩
 obtain ⟨cur,e1,e2,e3⟩:=h2 hp
 exact ⟨cur,e1,(hk gg cur e2).trans e2,e3⟩
theorem Rd.type {w:World} {b:Nat} {L:List Tok} {i:Nat} {bad:Bool} (h:Rd gg w b L i bad):∃ cur,w.heap[b]?=some (.cells cur 41 (0,0)):=by
 obtain ⟨la,lc,h1,h2⟩:=h.blk
 exact ⟨_,h1⟩
theorem Rd.set {w:World} {b:Nat} {L:List Tok} {i:Nat} {bad:Bool} (h:Rd gg w b L i bad) {q o:Nat} {x:Value} {cur:Array Value} (hq:w.heap[q]?=some (.cells cur 24 (0,0))):Rd gg (w.setCell ⟨q,o,none⟩ x) b L i bad:=by
 obtain ⟨cb,hb⟩:=h.type
 refine h.other (Below.heap_setCell _ _ _ b (fun e=>?_)) (fun k cu hk=>Below.heap_setCell _ _ _ k (fun e=>?_))
 ·have e':b=q:=e
  rw [e',hq] at hb
  simp at hb
 have e':k=q:=e
 rw [e',hq] at hk
 simp at hk
theorem Rd.alloc {w:World} {b:Nat} {L:List Tok} {i:Nat} {bad:Bool} (h:Rd gg w b L i bad) (o:Obj):Rd gg (w.alloc o) b L i bad:=h.kept (grown_alloc w o)
theorem set4 {w:World} {q:Nat} {c0 c1 c2 c3:Value} (a b c d:Value) (hq:w.heap[q]?=some (.cells #[c0,c1,c2,c3] 24 (0,0))):
  ((((w.setCell ⟨q,0,none⟩ a).setCell ⟨q,1,none⟩ b).setCell ⟨q,2,none⟩ c).setCell ⟨q,3,none⟩ d).heap[q]?=some (.cells #[a,b,c,d] 24 (0,0)) ∧
  (∀ bb L i bad,Rd gg w bb L i bad→Rd gg ((((w.setCell ⟨q,0,none⟩ a).setCell ⟨q,1,none⟩ b).setCell ⟨q,2,none⟩ c).setCell ⟨q,3,none⟩ d) bb L i bad) ∧
  (∀ z r,World.grownBy z w r→z.heap.size≤q→z.grownBy ((((w.setCell ⟨q,0,none⟩ a).setCell ⟨q,1,none⟩ b).setCell ⟨q,2,none⟩ c).setCell ⟨q,3,none⟩ d) r):=by
 have k0:(w.setCell ⟨q,0,none⟩ a).heap[q]?=some (.cells #[a,c1,c2,c3] 24 (0,0)):=(heap_setCell_same w q 0 _ 24 _ hq).trans rfl
 have k1:((w.setCell ⟨q,0,none⟩ a).setCell ⟨q,1,none⟩ b).heap[q]?=some (.cells #[a,b,c2,c3] 24 (0,0)):=(heap_setCell_same _ q 1 _ 24 _ k0).trans rfl
 have k2:(((w.setCell ⟨q,0,none⟩ a).setCell ⟨q,1,none⟩ b).setCell ⟨q,2,none⟩ c).heap[q]?=some (.cells #[a,b,c,c3] 24 (0,0)):=(heap_setCell_same _ q 2 _ 24 _ k1).trans rfl
 have k3:((((w.setCell ⟨q,0,none⟩ a).setCell ⟨q,1,none⟩ b).setCell ⟨q,2,none⟩ c).setCell ⟨q,3,none⟩ d).heap[q]?=some (.cells #[a,b,c,d] 24 (0,0)):=(heap_setCell_same _ q 3 _ 24 _ k2).trans rfl
 exact ⟨k3,fun bb L i bad h=>(((h.set hq).set k0).set k1).set k2,fun z r h hz=>grown_set (grown_set (grown_set (grown_set h hz) hz) hz) hz⟩
def Bx (w:World) (q:Nat) (cur:Array Value):Prop:=w.heap[q]?=some (.cells cur 24 (0,0))
theorem Bx.lt {q:Nat} {cur:Array Value} (h:Bx w q cur):q<w.heap.size:=(Array.getElem?_eq_some_iff.1 h).1
theorem Bx.ne {q:Nat} {cur:Array Value} {bad:Bool} (h:Bx w q cur) (hR:Rd gg w b L i bad):some q≠some b:=fun e=>by
 obtain ⟨cu,hc⟩:=hR.type
 injection e with e
 have h':w.heap[q]?=some (.cells cur 24 (0,0)):=h
 rw [e,hc] at h'
 simp at h'
theorem Bx.next {w2:World} {q:Nat} {cur:Array Value} {bad:Bool} (h:Bx w q cur) (hR:Rd gg w b L i bad) (hG:w.grownBy w2 (some b)):Bx w2 q cur:=(hG.block q h.lt (h.ne hR)).trans h
theorem Bx.keep {w2:World} {q:Nat} {cur:Array Value} (h:Bx w q cur) (hG:w.grownBy w2 none):Bx w2 q cur:=(hG.block q h.lt (by simp)).trans h
theorem Bx.set {q q' o:Nat} {cur:Array Value} {x:Value} (h:Bx w q cur) (hn:q≠q'):Bx (w.setCell ⟨q',o,none⟩ x) q cur:=(Below.heap_setCell _ _ _ q hn).trans h
theorem Bx.set_same {q o:Nat} {c0 c1 c2 c3:Value} {x:Value} (h:Bx w q #[c0,c1,c2,c3]):Bx (w.setCell ⟨q,o,none⟩ x) q ((#[c0,c1,c2,c3]:Array Value).setIfInBounds o x):=heap_setCell_same w q o _ 24 _ h
def PostNum (gg:Nat) (w:World) (b:Nat) (L:List Tok) (i:Nat) (e:Ending) (w':World):Prop:=
 w.grownBy w' (some b)∧∃ i' v,i≤i'∧e=.returned v∧((∃ x,number (left L i)=some (.ok (.nd x) (left L i'))∧NdV w' (fun k=>w.heap.size≤k) x v∧Rd gg w' b L i' false)∨(IsN v∧number (left L i)=some (.no (left L i'))∧Rd gg w' b L i' true))
theorem number_bad (h:Rd gg w b L i true):Calls Tryz.prog 34 #[.pointer (some ⟨b,0,none⟩)] w (BadN gg w b L i):=by
 have hbw:=h.lt
 have HR0:=ħ (h.alloc (.cells #[.int .i64 0,.string ⟨#[]⟩,.int .i64 0,.slice none 0 0] 24))
 have HG0:=ħ (grown_some (b:=b) (grown_alloc w (.cells #[.int .i64 0,.string ⟨#[]⟩,.int .i64 0,.slice none 0 0] 24)))
 have HB0:Hid (Bx (w.alloc (.cells #[.int .i64 0,.string ⟨#[]⟩,.int .i64 0,.slice none 0 0] 24)) w.heap.size #[.int .i64 0,.string ⟨#[]⟩,.int .i64 0,.slice none 0 0]):=heap_alloc_new w _
 obtain ⟨la,lc,hrb,-⟩:=HR0.out.blk
 have hcr:=cells_at hrb
 clear h hrb
 go_enter Tryz.func34,Tryz.ntmps34
 go_wp2_with fail
 generalize w.alloc _=w00 at *
 go_quiet (fail)
 generalize nq=nq1
 have HR1:=ħ (HR0.out.kept (grown_drewN w00 nq1))
 have HB1:=ħ (HB0.out.keep (grown_drewN w00 nq1))
 have HG1:=ħ (grown_none HG0.out (grown_drewN w00 nq1))
 go_wp2_with fail
 generalize w00.drewN nq1=w1 at *
 go_at_call 52
 refine (fail_any HR1.out).mono ?_
 rintro e w2 ⟨⟨vv,rfl⟩,hR,hG⟩
 have HB2:=ħ (HB1.out.next HR1.out hG)
 have HG2:=ħ (grown_app HG1.out hG)
 have HR2:=ħ hR
 clear hR hG
 have hcq:=cells_at HB2.out
 have hfq:=frozen_at HB2.out
 have hlq:=HB2.out.lt
 obtain ⟨m1,m2,m3⟩:=set4 (.int .i64 0) (.string ⟨#[]⟩) (.int .i64 0) (.slice none 0 0) HB2.out
 have hc3:=cells_at m1
 have hl3:=(Array.getElem?_eq_some_iff.1 m1).1
 have HE:=ħ (And.intro (m2 _ _ _ _ HR2.out) (m3 w _ HG2.out (Nat.le_refl _)))
 clear m1 m2 m3
 go_wp2_with fail
 generalize ((((w2.setCell ⟨w.heap.size,0,none⟩ (.int .i64 0)).setCell ⟨w.heap.size,1,none⟩ (.string ⟨#[]⟩)).setCell ⟨w.heap.size,2,none⟩ (.int .i64 0)).setCell ⟨w.heap.size,3,none⟩ (.slice none 0 0))=X at *
 refine bodyPost_ret (v:=(.agg #[.int .i64 0,.string ⟨#[]⟩,.int .i64 0,.slice none 0 0])) (by simp [results,Tryz.results34,go_sem,hc3,hl3]) rfl ?_
 exact ⟨HE.out.2,_,rfl,rfl,HE.out.1⟩
theorem number_end (h:Rd gg w b L i false) (hi:L.length≤i):Calls Tryz.prog 34 #[.pointer (some ⟨b,0,none⟩)] w (PostNum gg w b L i):=by
 have hbw:=h.lt
 have HR0:=ħ (h.alloc (.cells #[.int .i64 0,.string ⟨#[]⟩,.int .i64 0,.slice none 0 0] 24))
 have HG0:=ħ (grown_some (b:=b) (grown_alloc w (.cells #[.int .i64 0,.string ⟨#[]⟩,.int .i64 0,.slice none 0 0] 24)))
 have HB0:Hid (Bx (w.alloc (.cells #[.int .i64 0,.string ⟨#[]⟩,.int .i64 0,.slice none 0 0] 24)) w.heap.size #[.int .i64 0,.string ⟨#[]⟩,.int .i64 0,.slice none 0 0]):=heap_alloc_new w _
 obtain ⟨la,lc,hrb,-⟩:=HR0.out.blk
 have hcr:=cells_at hrb
 have hi':(L.length:Int)≤i:=by omega
 have HN:Hid (number (left L i)=some (.no (left L i))):=by show _=_;rw [left_end hi];rfl
 clear h hrb hi
 go_enter Tryz.func34,Tryz.ntmps34
 go_wp2_with fail
 generalize w.alloc _=w00 at *
 go_quiet (fail)
 generalize nq=nq1
 have HR1:=ħ (HR0.out.kept (grown_drewN w00 nq1))
 have HB1:=ħ (HB0.out.keep (grown_drewN w00 nq1))
 have HG1:=ħ (grown_none HG0.out (grown_drewN w00 nq1))
 go_wp2_with fail
 generalize w00.drewN nq1=w1 at *
 go_at_call 52
 refine (fail_any HR1.out).mono ?_
 rintro e w2 ⟨⟨vv,rfl⟩,hR,hG⟩
 have HB2:=ħ (HB1.out.next HR1.out hG)
 have HG2:=ħ (grown_app HG1.out hG)
 have HR2:=ħ hR
 clear hR hG
 have hcq:=cells_at HB2.out
 have hfq:=frozen_at HB2.out
 have hlq:=HB2.out.lt
 obtain ⟨m1,m2,m3⟩:=set4 (.int .i64 0) (.string ⟨#[]⟩) (.int .i64 0) (.slice none 0 0) HB2.out
 have hc3:=cells_at m1
 have hl3:=(Array.getElem?_eq_some_iff.1 m1).1
 have HE:=ħ (And.intro (m2 _ _ _ _ HR2.out) (m3 w _ HG2.out (Nat.le_refl _)))
 clear m1 m2 m3
 go_wp2_with fail
 generalize ((((w2.setCell ⟨w.heap.size,0,none⟩ (.int .i64 0)).setCell ⟨w.heap.size,1,none⟩ (.string ⟨#[]⟩)).setCell ⟨w.heap.size,2,none⟩ (.int .i64 0)).setCell ⟨w.heap.size,3,none⟩ (.slice none 0 0))=X at *
 refine bodyPost_ret (v:=(.agg #[.int .i64 0,.string ⟨#[]⟩,.int .i64 0,.slice none 0 0])) (by simp [results,Tryz.results34,go_sem,hc3,hl3]) rfl ?_
 exact ⟨HE.out.2,i,_,Nat.le_refl _,rfl,Or.inr ⟨rfl,HN.out,HE.out.1⟩⟩
theorem number_no (h:Rd gg w b L i false) (hi:i<L.length) (h2:L[i].kind≠2) (h3:L[i].kind≠3):Calls Tryz.prog 34 #[.pointer (some ⟨b,0,none⟩)] w (PostNum gg w b L i):=by
 have hbw:=h.lt
 have HR0:=ħ (h.alloc (.cells #[.int .i64 0,.string ⟨#[]⟩,.int .i64 0,.slice none 0 0] 24))
 have HG0:=ħ (grown_some (b:=b) (grown_alloc w (.cells #[.int .i64 0,.string ⟨#[]⟩,.int .i64 0,.slice none 0 0] 24)))
 have HB0:Hid (Bx (w.alloc (.cells #[.int .i64 0,.string ⟨#[]⟩,.int .i64 0,.slice none 0 0] 24)) w.heap.size #[.int .i64 0,.string ⟨#[]⟩,.int .i64 0,.slice none 0 0]):=heap_alloc_new w _
 obtain ⟨la,lc,hrb,htk⟩:=HR0.out.blk
 obtain ⟨cur,rfl,e2,e3⟩:=htk (by omega)
 obtain ⟨x0,x1,x2⟩:=e3 i _ (List.getElem?_eq_getElem hi)
 have hu0:=(cells_at e2 (i*3)).trans x0
 have hcr:=cells_at hrb
 have hi':(i:Int)<L.length:=by omega
 have hidx:(0:Int)≤i∧(i:Int)<L.length:=by omega
 have HN:Hid (number (left L i)=some (.no (left L i))):=by
  show _=_
  have e:left L i=tk L[i]::left L (i+1):=by unfold left;rw [List.drop_eq_getElem_cons hi];rfl
  rw [e]
  show (if (tk L[i]).kind=2 then _ else if (tk L[i]).kind=3 then _ else _)=_
  rw [if_neg (show ¬ (tk L[i]).kind=2 from h2),if_neg (show ¬ (tk L[i]).kind=3 from h3)]
 have h2':(L[i].kind != 2)=true:=by simpa using h2
 have h3':(L[i].kind != 3)=true:=by simpa using h3
 clear h2 h3
 generalize L[i].kind=kk at *
 clear h hrb x0 x1 x2 e2 e3 htk
 go_enter Tryz.func34,Tryz.ntmps34
 go_wp2_with fail
 generalize w.alloc _=w00 at *
 go_quiet (fail)
 generalize nq=nq1
 have HR1:=ħ (HR0.out.kept (grown_drewN w00 nq1))
 have HB1:=ħ (HB0.out.keep (grown_drewN w00 nq1))
 have HG1:=ħ (grown_none HG0.out (grown_drewN w00 nq1))
 go_wp2_with fail
 generalize w00.drewN nq1=w1 at *
 go_at_call 52
 refine (fail_any HR1.out).mono ?_
 rintro e w2 ⟨⟨vv,rfl⟩,hR,hG⟩
 have HB2:=ħ (HB1.out.next HR1.out hG)
 have HG2:=ħ (grown_app HG1.out hG)
 have HR2:=ħ hR
 clear hR hG
 have hcq:=cells_at HB2.out
 have hfq:=frozen_at HB2.out
 have hlq:=HB2.out.lt
 obtain ⟨m1,m2,m3⟩:=set4 (.int .i64 0) (.string ⟨#[]⟩) (.int .i64 0) (.slice none 0 0) HB2.out
 have hc3:=cells_at m1
 have hl3:=(Array.getElem?_eq_some_iff.1 m1).1
 have HE:=ħ (And.intro (m2 _ _ _ _ HR2.out) (m3 w _ HG2.out (Nat.le_refl _)))
 clear m1 m2 m3
 go_wp2_with fail
 generalize ((((w2.setCell ⟨w.heap.size,0,none⟩ (.int .i64 0)).setCell ⟨w.heap.size,1,none⟩ (.string ⟨#[]⟩)).setCell ⟨w.heap.size,2,none⟩ (.int .i64 0)).setCell ⟨w.heap.size,3,none⟩ (.slice none 0 0))=X at *
 refine bodyPost_ret (v:=(.agg #[.int .i64 0,.string ⟨#[]⟩,.int .i64 0,.slice none 0 0])) (by simp [results,Tryz.results34,go_sem,hc3,hl3]) rfl ?_
 exact ⟨HE.out.2,i,_,Nat.le_refl _,rfl,Or.inr ⟨rfl,HN.out,HE.out.1⟩⟩
def dv (tx:ByteArray) (k:Nat):Int:=digits (tx.data.toList.take k) 0
theorem digits_app:∀ (a c:List UInt8) (v:Int),digits (a++c) v=digits c (digits a v)
 | [],_,_=>rfl
 | x::a,c,v=>digits_app a c _
theorem digits_ge:∀ (a:List UInt8) (v:Int),(∀ c,c∈a→48≤c.toNat∧c.toNat≤57)→0≤v→v≤digits a v
 | [],v,_,_=>Int.le_refl _
 | x::a,v,h,hv=>by
  have hx:=h x (by simp)
  have:=digits_ge a (10*v+(x.toNat:Int) - 48) (fun c hc=>h c (by simp [hc])) (by omega)
  show v≤digits a (10*v+(x.toNat:Int) - 48)
  omega
theorem dv_step (tx:ByteArray) (k:Nat) (hk:k<tx.size) (hA:∀ c,c∈tx.data.toList→48≤c.toNat∧c.toNat≤57) (hm:digits tx.data.toList 0≤9223372036854775807):dv tx (k+1)=10*dv tx k+((tx[k].toNat:Int) - 48)∧0≤dv tx k∧dv tx (k+1)≤9223372036854775807∧48≤tx[k].toNat∧tx[k].toNat≤57:=by
 have hl:k<tx.data.toList.length:=by rw [Array.length_toList];exact hk
 have e1:tx.data.toList.take (k+1)=tx.data.toList.take k++[tx[k]]:=by
  rw [List.take_add_one,List.getElem?_eq_getElem hl]
  rfl
 have hmem:=hA tx[k] (by rw [Array.mem_toList_iff];exact Array.getElem_mem hk)
 have s1:dv tx (k+1)=10*dv tx k+((tx[k].toNat:Int) - 48):=by
  unfold dv
  rw [e1,digits_app]
  show 10*digits (tx.data.toList.take k) 0+(tx[k].toNat:Int) - 48=_
  omega
 have s2:0≤dv tx k:=digits_ge _ 0 (fun c hc=>hA c (List.mem_of_mem_take hc)) (Int.le_refl _)
 have s3:dv tx (k+1)≤digits tx.data.toList 0:=by
  have e2:digits tx.data.toList 0=digits (tx.data.toList.drop (k+1)) (dv tx (k+1)):=by
   unfold dv
   rw [← digits_app,List.take_append_drop]
  rw [e2]
  exact digits_ge _ _ (fun c hc=>hA c (List.mem_of_mem_drop hc)) (by omega)
 exact ⟨s1,s2,by omega,hmem.1,hmem.2⟩
theorem number_yes2 (h:Rd gg w b L i false) (hi:i<L.length) (hk:L[i].kind=2) (hAD:∀ c,c∈L[i].text.data.toList→48≤c.toNat∧c.toNat≤57) (hmax:digits L[i].text.data.toList 0≤9223372036854775807) (hsz:L[i].text.size≤4000):Calls Tryz.prog 34 #[.pointer (some ⟨b,0,none⟩)] w (PostNum gg w b L i):=by
 have hbw:=h.lt
 have HR0:=ħ (h.alloc (.cells #[.int .i64 0,.string ⟨#[]⟩,.int .i64 0,.slice none 0 0] 24))
 have HG0:=ħ (grown_some (b:=b) (grown_alloc w (.cells #[.int .i64 0,.string ⟨#[]⟩,.int .i64 0,.slice none 0 0] 24)))
 have HB0:Hid (Bx (w.alloc (.cells #[.int .i64 0,.string ⟨#[]⟩,.int .i64 0,.slice none 0 0] 24)) w.heap.size #[.int .i64 0,.string ⟨#[]⟩,.int .i64 0,.slice none 0 0]):=heap_alloc_new w _
 obtain ⟨la,lc,hrb,htk⟩:=HR0.out.blk
 obtain ⟨cur,rfl,e2,e3⟩:=htk (by omega)
 obtain ⟨x0,x1,x2⟩:=e3 i _ (List.getElem?_eq_getElem hi)
 have hu0:=(cells_at e2 (i*3)).trans x0
 have hu1:=(cells_at e2 (i*3+1)).trans x1
 have hu2:=(cells_at e2 (i*3+2)).trans x2
 have hgl:=(Array.getElem?_eq_some_iff.1 e2).1
 have hcr:=cells_at hrb
 have hi':(i:Int)<L.length:=by omega
 have hidx:(0:Int)≤i∧(i:Int)<L.length:=by omega
 have HT:Hid (left L i=tk L[i]::left L (i+1)):=by show _=_;unfold left;rw [List.drop_eq_getElem_cons hi];rfl
 have HKi:Hid ((tk L[i]).kind=2):=hk
 have HK:=ħ hk
 have hLn:=h.len
 have h2':(L[i].kind != 2)=false:=by simp [hk]
 have hge:decide ((L.length:Int)≤(i:Int))=false:=decide_eq_false (by omega)
 have hge2:decide (L.length≤i)=false:=decide_eq_false (by omega)
 have h3':(L[i].kind == 3)=false:=by simp [hk]
 generalize L[i].kind=kk at *
 obtain ⟨tx,htx⟩:∃ tx,tx=L[i].text:=⟨_,rfl⟩
 obtain ⟨ta,hta⟩:∃ ta,ta=L[i].at_:=⟨_,rfl⟩
 rw [← htx] at hu1 hAD hmax hsz
 rw [← hta] at hu2
 have HTx:=ħ htx
 clear h hrb x0 x1 x2 e2 e3 htk hk htx hta
 go_enter Tryz.func34,Tryz.ntmps34
 go_wp2_with fail
 generalize w.alloc _=w00 at *
 have HSS:Hid (∀ w9,w00.grownBy w9 none→(∀ o,w9.cell? ⟨b,o,none⟩=(#[Value.slice (some ⟨gg,0,none⟩) L.length lc,.int .i64 i,.bool false])[o]?)∧w9.cell? ⟨gg,i*3,none⟩=some (.int .i64 kk)∧w9.cell? ⟨gg,i*3+1,none⟩=some (.string tx)∧w9.cell? ⟨gg,i*3+2,none⟩=some (.int .i64 ta)):=fun w9 hg=>⟨fun o=>(World.cell?_of_block (a:=⟨b,o,none⟩) (hg.block b HR0.out.lt (by simp))).trans (hcr o),(World.cell?_of_block (a:=⟨gg,i*3,none⟩) (hg.block gg hgl (by simp))).trans hu0,(World.cell?_of_block (a:=⟨gg,i*3+1,none⟩) (hg.block gg hgl (by simp))).trans hu1,(World.cell?_of_block (a:=⟨gg,i*3+2,none⟩) (hg.block gg hgl (by simp))).trans hu2⟩
 refine wp_region_held_drew (S:=fun w9=>(∀ o,w9.cell? ⟨b,o,none⟩=(#[Value.slice (some ⟨gg,0,none⟩) L.length lc,.int .i64 i,.bool false])[o]?)∧w9.cell? ⟨gg,i*3,none⟩=some (.int .i64 kk)∧w9.cell? ⟨gg,i*3+1,none⟩=some (.string tx)∧w9.cell? ⟨gg,i*3+2,none⟩=some (.int .i64 ta)) (by kernel_rfl) (HSS.out _ (grown_drewN w00 1)) (fun hHeld=>?_)
 refine tq 0 ?_
 simp only [qq]
 refine tq 1 ?_
 simp only [qq]
 refine tq 2 ?_
 simp only [qq]
 refine tq 3 ?_
 simp only [qq]
 refine tq 4 ?_
 simp only [qq]
 refine tq 5 ?_
 simp only [qq]
 refine tq 6 ?_
 simp only [qq]
 refine tq 7 ?_
 simp only [qq]
 refine tq 8 ?_
 simp only [qq]
 refine tq 9 ?_
 simp only [qq]
 refine tq 10 ?_
 simp only [qq]
 refine tq 11 ?_
 simp only [qq]
 refine tq 12 ?_
 simp only [qq]
 refine tq 13 ?_
 simp only [qq]
 refine tq 14 ?_
 simp only [qq]
 refine tq 15 ?_
 simp only [qq]
 refine tq 16 ?_
 simp only [qq]
 refine tq 17 ?_
 simp only [qq]
 refine tq 18 ?_
 simp only [qq]
 refine tq 19 ?_
 simp only [qq]
 refine tq 20 ?_
 simp only [qq]
 refine tq 21 ?_
 simp only [qq]
 refine tq 22 ?_
 simp only [qq]
 refine tq 23 ?_
 simp only [qq]
 refine tq 24 ?_
 simp only [qq]
 refine tq 25 ?_
 simp only [qq]
 refine tq 26 ?_
 simp only [qq]
 refine tq 27 ?_
 simp only [qq]
 refine tq 28 ?_
 simp only [qq]
 refine tq 29 ?_
 simp only [qq]
 refine uq 30 ?_
 simp only [qq]
 refine uq 31 ?_
 simp only [qq]
 refine uq 32 ?_
 simp only [qq]
 refine uq 33 ?_
 simp only [qq]
 refine uq 34 ?_
 simp only [qq]
 refine uq 35 ?_
 simp only [qq]
 refine uq 36 ?_
 simp only [qq]
 refine uq 37 ?_
 simp only [qq]
 refine uq 38 ?_
 simp only [qq]
 refine uq 39 ?_
 simp only [qq]
 refine uq 40 ?_
 simp only [qq]
 refine uq 41 ?_
 simp only [qq]
 refine tq 42 ?_
 simp only [qq]
 refine tq 43 ?_
 simp only [qq]
 refine wpAnyH_done (by kernel_rfl) ?_ _
 go_wp2_with fail
 clear hHeld
 have hg2:w00.grownBy w00.drew.drew none:=grown_none (grown_drewN w00 1) (grown_drewN _ 1)
 have HZ43:Hid (∀ v,w00.drew.drew.heap.size=v→v=w00.heap.size):=fun v h=>h.symm
 refine wp_region_held_drew (S:=fun w9=>(∀ o,w9.cell? ⟨b,o,none⟩=(#[Value.slice (some ⟨gg,0,none⟩) L.length lc,.int .i64 i,.bool false])[o]?)∧w9.cell? ⟨gg,i*3,none⟩=some (.int .i64 kk)∧w9.cell? ⟨gg,i*3+1,none⟩=some (.string tx)∧w9.cell? ⟨gg,i*3+2,none⟩=some (.int .i64 ta)) (by kernel_rfl) (HSS.out _ hg2) (fun hHeld=>?_)
 refine tq 0 ?_
 simp only [qq]
 refine tq 1 ?_
 simp only [qq]
 refine tq 2 ?_
 simp only [qq]
 refine tq 3 ?_
 simp only [qq]
 refine tq 4 ?_
 simp only [qq]
 refine tq 5 ?_
 simp only [qq]
 refine tq 6 ?_
 simp only [qq]
 refine tq 7 ?_
 simp only [qq]
 refine tq 8 ?_
 simp only [qq]
 refine tq 9 ?_
 simp only [qq]
 refine rq 10 fun K hK=>?_
 go_simp
 refine hK.out _ _ (HSS.out _ (grown_none hg2 (grown_alloc _ _))) (fun hHeld2=>?_)
 clear hK K
 try simp only [qq]
 have hq43:(w00.drew.drew.alloc (.cells #[.int .i64 0,.string ⟨#[]⟩,.int .i64 0] 44)).heap[w00.heap.size]?=some (.cells #[.int .i64 0,.string ⟨#[]⟩,.int .i64 0] 44 (0,0)):=heap_alloc_new w00.drew.drew _
 have hc43:=cells_at hq43
 have hf43:=frozen_at hq43
 refine rq 11 fun K hK=>?_
 go_simp
 have hgT:w00.grownBy (w00.alloc (.cells #[.int .i64 kk,.string tx,.int .i64 ta] 44)).drew.drew none:=grown_none (grown_none (grown_alloc w00 _) (grown_drewN _ 1)) (grown_drewN _ 1)
 refine hK.out _ _ (HSS.out _ hgT) (fun hHeld3=>?_)
 clear hK K
 refine wpAnyH_done (by kernel_rfl) ?_ _
 have hq3:(w00.alloc (.cells #[.int .i64 kk,.string tx,.int .i64 ta] 44)).drew.drew.heap[w00.heap.size]?=some (.cells #[.int .i64 kk,.string tx,.int .i64 ta] 44 (0,0)):=heap_alloc_new w00 _
 have hzT:(w00.alloc (.cells #[.int .i64 kk,.string tx,.int .i64 ta] 44)).drew.drew.heap.size=w00.heap.size+1:=by show (w00.alloc (.cells #[.int .i64 kk,.string tx,.int .i64 ta] 44)).heap.size=_;simp
 have HR2:=ħ (HR0.out.kept hgT)
 have HB2:=ħ (HB0.out.keep hgT)
 have HG2:=ħ (grown_none HG0.out hgT)
 have H43:=ħ hq3
 clear hHeld hHeld2 hHeld3 hq43 hc43 hf43 hgT hq3 hg2 HZ43 hcr hu0 hu1 hu2
 generalize (w00.alloc (.cells #[.int .i64 kk,.string tx,.int .i64 ta] 44)).drew.drew=w2 at *
 obtain ⟨la2,lc2,hrb2,-⟩:=HR2.out.blk
 have hcr:=cells_at hrb2
 have hfr:=frozen_at hrb2
 have hw2:IntKind.i64.wrap ((i:Int)+1)=(i:Int)+1:=by rw [IntKind.wrap_i64];omega
 obtain ⟨r1,r2⟩:=HR2.out.step hi
 have HB3:=ħ (HB2.out.next HR2.out r2)
 have HG3:=ħ (grown_app HG2.out r2)
 have HR3:=ħ r1
 have hb43:b≠w00.heap.size:=fun e=>by have h9:=H43.out;rw [← e,hrb2] at h9;simp at h9
 have H433:Hid ((w2.setCell ⟨b,1,none⟩ (.int .i64 ((i:Int)+1))).heap[w00.heap.size]?=some (.cells #[.int .i64 kk,.string tx,.int .i64 ta] 44 (0,0))):=(r2.block w00.heap.size (by omega) (fun e=>by injection e with e;exact hb43 e.symm)).trans H43.out
 have hz3:(w2.setCell ⟨b,1,none⟩ (.int .i64 ((i:Int)+1))).heap.size=w00.heap.size+1:=by simpa [World.setCell] using hzT
 have hc43:=cells_at H433.out
 clear r1 r2 hrb2
 go_wp2_with fail
 have HR4:=ħ (HR3.out.alloc (.cells #[.int .i64 21,.string ⟨#[]⟩,.int .i64 0,.slice none 0 0] 24))
 have HB4:=ħ (HB3.out.keep (grown_alloc _ (.cells #[.int .i64 21,.string ⟨#[]⟩,.int .i64 0,.slice none 0 0] 24)))
 have HG4:=ħ (grown_none HG3.out (grown_alloc _ (.cells #[.int .i64 21,.string ⟨#[]⟩,.int .i64 0,.slice none 0 0] 24)))
 have H434:Hid (((w2.setCell ⟨b,1,none⟩ (.int .i64 ((i:Int)+1))).alloc (.cells #[.int .i64 21,.string ⟨#[]⟩,.int .i64 0,.slice none 0 0] 24)).heap[w00.heap.size]?=some (.cells #[.int .i64 kk,.string tx,.int .i64 ta] 44 (0,0))):=(Below.heap_alloc _ _ _ (by omega)).trans H433.out
 have HN4:Hid (Bx ((w2.setCell ⟨b,1,none⟩ (.int .i64 ((i:Int)+1))).alloc (.cells #[.int .i64 21,.string ⟨#[]⟩,.int .i64 0,.slice none 0 0] 24)) (w00.heap.size+1) #[.int .i64 21,.string ⟨#[]⟩,.int .i64 0,.slice none 0 0]):=by
  have h9:=heap_alloc_new (w2.setCell ⟨b,1,none⟩ (.int .i64 ((i:Int)+1))) (.cells #[.int .i64 21,.string ⟨#[]⟩,.int .i64 0,.slice none 0 0] 24)
  rw [hz3] at h9
  exact h9
 clear hc43 hcr hfr HB3 HG3 HR3 H433
 generalize (w2.setCell _ _).alloc _=w4 at *
 have hqc:w.heap.size≠w00.heap.size+1:=by have:=HB0.out.lt;omega
 have hqc2:w00.heap.size+1≠w.heap.size:=by omega
 have hqT:w00.heap.size≠w00.heap.size+1:=by omega
 have hqT2:w.heap.size≠w00.heap.size:=by have:=HB0.out.lt;omega
 go_loopw [5] (fun i' wr=>∃ k:Nat,k≤tx.size∧i'=.int .i64 k∧Hid (Rd gg wr b L (i+1) false)∧Hid (Bx wr w.heap.size #[.int .i64 0,.string ⟨#[]⟩,.int .i64 0,.slice none 0 0])∧Hid (w.grownBy wr (some b))∧Hid (wr.heap[w00.heap.size]?=some (.cells #[.int .i64 kk,.string tx,.int .i64 ta] 44 (0,0)))∧Hid (Bx wr (w00.heap.size+1) #[.int .i64 21,.string ⟨#[]⟩,.int .i64 (dv tx k),.slice none 0 0])) (fun i' _=>tx.size - (intOf i').toNat)
 case atStart=>exact ⟨0,Nat.zero_le _,rfl,HR4,HB4,HG4,H434,HN4⟩
 case round=>
  obtain ⟨k,hk2,rfl,HRk,HBk,HGk,HTk,HNk⟩:=hrel
  clear HR4 HB4 HG4 H434 HN4
  have hcT:=cells_at HTk.out
  have hcN:=cells_at HNk.out
  have hfN:=frozen_at HNk.out
  have hlN:=HNk.out.lt
  by_cases hlt:k<tx.size
  ·have hlt':(k:Int)<tx.size:=by omega
   have hidk:(0:Int)≤k∧(k:Int)<tx.size:=by omega
   obtain ⟨d1,d2,d3,d4,d5⟩:=dv_step tx k hlt hAD hmax
   have HD:=ħ d1
   have ha:IntKind.u8.wrap ((tx[k].toNat:Int) - 48)=(tx[k].toNat:Int) - 48:=by rw [IntKind.wrap_u8];omega
   have hm:IntKind.i64.wrap (10*dv tx k)=10*dv tx k:=by rw [IntKind.wrap_i64];omega
   have hcv:IntKind.i64.wrap ((tx[k].toNat:Int) - 48)=(tx[k].toNat:Int) - 48:=by rw [IntKind.wrap_i64];omega
   have hadd:IntKind.i64.wrap (10*dv tx k+((tx[k].toNat:Int) - 48))=10*dv tx k+((tx[k].toNat:Int) - 48):=by rw [IntKind.wrap_i64];omega
   go_wp2_with fail
   have HTd:Hid (∀ o,wr.drew.cell? ⟨w00.heap.size,o,none⟩=(#[.int .i64 kk,.string tx,.int .i64 ta]:Array Value)[o]?):=cells_at (show wr.drew.heap[w00.heap.size]?=_ from HTk.out)
   have hcNd:∀ o,wr.drew.cell? ⟨w00.heap.size+1,o,none⟩=(#[Value.int .i64 21,.string ⟨#[]⟩,.int .i64 (dv tx k),.slice none 0 0])[o]?:=cells_at (show wr.drew.heap[w00.heap.size+1]?=_ from HNk.out)
   have hfNd:∀ o,wr.drew.frozen? ⟨w00.heap.size+1,o,none⟩=false:=frozen_at (show wr.drew.heap[w00.heap.size+1]?=_ from HNk.out)
   refine wp_region_held_drew (S:=fun w9=>∀ o,w9.cell? ⟨w00.heap.size,o,none⟩=(#[.int .i64 kk,.string tx,.int .i64 ta]:Array Value)[o]?) (by kernel_rfl) HTd.out (fun hHeld=>?_)
   refine tq 0 ?_
   simp only [qq]
   refine tq 3 ?_
   simp only [qq]
   refine tq 4 ?_
   simp only [qq]
   refine tq 5 ?_
   simp only [qq]
   refine tq 6 ?_
   simp only [qq]
   refine tq 7 ?_
   simp only [qq]
   refine tq 8 ?_
   simp only [qq]
   refine rq 1 fun K hK=>?_
   go_simp
   refine hK.out _ _ HTd.out (fun hHeld2=>?_)
   clear hK K
   try simp only [qq]
   refine tq 2 ?_
   simp only [qq]
   refine tq 9 ?_
   simp only [qq]
   refine tq 10 ?_
   simp only [qq]
   refine rq 11 fun K hK=>?_
   go_simp
   have hT5:(wr.setCell ⟨w00.heap.size+1,2,none⟩ (.int .i64 (10*dv tx k+((tx[k].toNat:Int) - 48)))).drew.heap[w00.heap.size]?=some (.cells #[.int .i64 kk,.string tx,.int .i64 ta] 44 (0,0)):=(Below.heap_setCell _ _ _ w00.heap.size hqT).trans HTk.out
   have hN5:Bx (wr.setCell ⟨w00.heap.size+1,2,none⟩ (.int .i64 (10*dv tx k+((tx[k].toNat:Int) - 48)))).drew (w00.heap.size+1) #[.int .i64 21,.string ⟨#[]⟩,.int .i64 (dv tx (k+1)),.slice none 0 0]:=by rw [HD.out];exact HNk.out.set_same
   have hB5:Bx (wr.setCell ⟨w00.heap.size+1,2,none⟩ (.int .i64 (10*dv tx k+((tx[k].toNat:Int) - 48)))).drew w.heap.size #[.int .i64 0,.string ⟨#[]⟩,.int .i64 0,.slice none 0 0]:=HBk.out.set hqc
   have HR5:Hid (Rd gg (wr.setCell ⟨w00.heap.size+1,2,none⟩ (.int .i64 (10*dv tx k+((tx[k].toNat:Int) - 48)))).drew b L (i+1) false):=(HRk.out.set HNk.out).kept (grown_drewN _ 1)
   have HG5:Hid (w.grownBy (wr.setCell ⟨w00.heap.size+1,2,none⟩ (.int .i64 (10*dv tx k+((tx[k].toNat:Int) - 48)))).drew (some b)):=grown_none (grown_set HGk.out (by have:=HB0.out.lt;omega)) (grown_drewN _ 1)
   refine hK.out _ _ (cells_at hT5) (fun hHeld3=>?_)
   clear hK K
   refine wpAnyH_done (by kernel_rfl) ?_ _
   have HT5:=ħ hT5
   have HN5:=ħ hN5
   have HB5:=ħ hB5
   clear hT5 hN5 hB5 hHeld hHeld2 hHeld3 hcT hcN hfN hcNd hfNd
   generalize (wr.setCell ⟨w00.heap.size+1,2,none⟩ (.int .i64 (10*dv tx k+((tx[k].toNat:Int) - 48)))).drew=w5 at *
   go_wp2_with fail
   go_roundw
   case rel=>exact ⟨k+1,by omega,by go_num,HR5,HB5,HG5,HT5,HN5⟩
   case measure=>simp [intOf];omega
  have hlt':¬ (k:Int)<tx.size:=by omega
  have hke:k=tx.size:=by omega
  have HNum:Hid (number (left L i)=some (.ok (.nd (.mk 21 [] (dv tx k) [])) (left L (i+1)))):=by
   show _=_
   rw [HT.out]
   show (if (tk L[i]).kind=2 then _ else _)=_
   rw [if_pos HKi.out,hke]
   have e9:dv tx tx.size=digits (tk L[i]).text 0:=by
    unfold dv
    rw [HTx.out,List.take_of_length_le (by rw [Array.length_toList];exact Nat.le_refl _)]
    rfl
   rw [e9]
  clear hke
  have hcq:=cells_at HBk.out
  have hfq:=frozen_at HBk.out
  obtain ⟨m1,m2,m3⟩:=set4 (.int .i64 21) (.string ⟨#[]⟩) (.int .i64 (dv tx k)) (.slice none 0 0) HBk.out
  have hc3:=cells_at m1
  have hl3:=(Array.getElem?_eq_some_iff.1 m1).1
  have HE:=ħ (And.intro (m2 _ _ _ _ HRk.out) (m3 w _ HGk.out (Nat.le_refl _)))
  clear m1 m2 m3
  generalize dv tx k=dd at *
  go_wp2_with fail
  generalize ((((wr.setCell ⟨w.heap.size,0,none⟩ (.int .i64 21)).setCell ⟨w.heap.size,1,none⟩ (.string ⟨#[]⟩)).setCell ⟨w.heap.size,2,none⟩ (.int .i64 dd)).setCell ⟨w.heap.size,3,none⟩ (.slice none 0 0))=X at *
  refine bodyPost_ret (v:=.agg #[.int .i64 21,.string ⟨#[]⟩,.int .i64 dd,.slice none 0 0]) (by simp [results,Tryz.results34,go_sem,hc3,hl3]) rfl ?_
  exact ⟨HE.out.2,i+1,_,by omega,rfl,Or.inl ⟨.mk 21 [] dd [],HNum.out,NdV.bare 21 [] dd none 0,HE.out.1⟩⟩

theorem number_yes3 (h:Rd gg w b L i false) (hi:i<L.length) (hk:L[i].kind=3) (hAD:∀ c,c∈L[i].text.data.toList→48≤c.toNat∧c.toNat≤57) (hmax:digits L[i].text.data.toList 0≤9223372036854775807) (hsz:L[i].text.size≤4000):Calls Tryz.prog 34 #[.pointer (some ⟨b,0,none⟩)] w (PostNum gg w b L i):=by
 have hbw:=h.lt
 have HR0:=ħ (h.alloc (.cells #[.int .i64 0,.string ⟨#[]⟩,.int .i64 0,.slice none 0 0] 24))
 have HG0:=ħ (grown_some (b:=b) (grown_alloc w (.cells #[.int .i64 0,.string ⟨#[]⟩,.int .i64 0,.slice none 0 0] 24)))
 have HB0:Hid (Bx (w.alloc (.cells #[.int .i64 0,.string ⟨#[]⟩,.int .i64 0,.slice none 0 0] 24)) w.heap.size #[.int .i64 0,.string ⟨#[]⟩,.int .i64 0,.slice none 0 0]):=heap_alloc_new w _
 obtain ⟨la,lc,hrb,htk⟩:=HR0.out.blk
 obtain ⟨cur,rfl,e2,e3⟩:=htk (by omega)
 obtain ⟨x0,x1,x2⟩:=e3 i _ (List.getElem?_eq_getElem hi)
 have hu0:=(cells_at e2 (i*3)).trans x0
 have hu1:=(cells_at e2 (i*3+1)).trans x1
 have hu2:=(cells_at e2 (i*3+2)).trans x2
 have hgl:=(Array.getElem?_eq_some_iff.1 e2).1
 have hcr:=cells_at hrb
 have hi':(i:Int)<L.length:=by omega
 have hidx:(0:Int)≤i∧(i:Int)<L.length:=by omega
 have HT:Hid (left L i=tk L[i]::left L (i+1)):=by show _=_;unfold left;rw [List.drop_eq_getElem_cons hi];rfl
 have HKi:Hid ((tk L[i]).kind=3):=hk
 have HK:=ħ hk
 have hLn:=h.len
 have h2':(L[i].kind != 2)=true:=by simp [hk]
 have h4':(L[i].kind != 3)=false:=by simp [hk]
 have hge:decide ((L.length:Int)≤(i:Int))=false:=decide_eq_false (by omega)
 have hge2:decide (L.length≤i)=false:=decide_eq_false (by omega)
 have h3':(L[i].kind == 3)=true:=by simp [hk]
 generalize L[i].kind=kk at *
 obtain ⟨tx,htx⟩:∃ tx,tx=L[i].text:=⟨_,rfl⟩
 obtain ⟨ta,hta⟩:∃ ta,ta=L[i].at_:=⟨_,rfl⟩
 rw [← htx] at hu1 hAD hmax hsz
 rw [← hta] at hu2
 have HTx:=ħ htx
 clear h hrb x0 x1 x2 e2 e3 htk hk htx hta
 go_enter Tryz.func34,Tryz.ntmps34
 go_wp2_with fail
 generalize w.alloc _=w00 at *
 have HSS:Hid (∀ w9,w00.grownBy w9 none→(∀ o,w9.cell? ⟨b,o,none⟩=(#[Value.slice (some ⟨gg,0,none⟩) L.length lc,.int .i64 i,.bool false])[o]?)∧w9.cell? ⟨gg,i*3,none⟩=some (.int .i64 kk)∧w9.cell? ⟨gg,i*3+1,none⟩=some (.string tx)∧w9.cell? ⟨gg,i*3+2,none⟩=some (.int .i64 ta)):=fun w9 hg=>⟨fun o=>(World.cell?_of_block (a:=⟨b,o,none⟩) (hg.block b HR0.out.lt (by simp))).trans (hcr o),(World.cell?_of_block (a:=⟨gg,i*3,none⟩) (hg.block gg hgl (by simp))).trans hu0,(World.cell?_of_block (a:=⟨gg,i*3+1,none⟩) (hg.block gg hgl (by simp))).trans hu1,(World.cell?_of_block (a:=⟨gg,i*3+2,none⟩) (hg.block gg hgl (by simp))).trans hu2⟩
 refine wp_region_held_drew (S:=fun w9=>(∀ o,w9.cell? ⟨b,o,none⟩=(#[Value.slice (some ⟨gg,0,none⟩) L.length lc,.int .i64 i,.bool false])[o]?)∧w9.cell? ⟨gg,i*3,none⟩=some (.int .i64 kk)∧w9.cell? ⟨gg,i*3+1,none⟩=some (.string tx)∧w9.cell? ⟨gg,i*3+2,none⟩=some (.int .i64 ta)) (by kernel_rfl) (HSS.out _ (grown_drewN w00 1)) (fun hHeld=>?_)
 refine tq 0 ?_
 simp only [qq]
 refine tq 1 ?_
 simp only [qq]
 refine tq 2 ?_
 simp only [qq]
 refine tq 3 ?_
 simp only [qq]
 refine tq 4 ?_
 simp only [qq]
 refine tq 5 ?_
 simp only [qq]
 refine tq 6 ?_
 simp only [qq]
 refine tq 7 ?_
 simp only [qq]
 refine tq 8 ?_
 simp only [qq]
 refine tq 9 ?_
 simp only [qq]
 refine tq 10 ?_
 simp only [qq]
 refine tq 11 ?_
 simp only [qq]
 refine tq 12 ?_
 simp only [qq]
 refine tq 13 ?_
 simp only [qq]
 refine tq 14 ?_
 simp only [qq]
 refine tq 15 ?_
 simp only [qq]
 refine tq 16 ?_
 simp only [qq]
 refine tq 17 ?_
 simp only [qq]
 refine tq 18 ?_
 simp only [qq]
 refine tq 19 ?_
 simp only [qq]
 refine tq 20 ?_
 simp only [qq]
 refine tq 21 ?_
 simp only [qq]
 refine tq 22 ?_
 simp only [qq]
 refine tq 23 ?_
 simp only [qq]
 refine tq 24 ?_
 simp only [qq]
 refine tq 25 ?_
 simp only [qq]
 refine tq 26 ?_
 simp only [qq]
 refine tq 27 ?_
 simp only [qq]
 refine tq 28 ?_
 simp only [qq]
 refine tq 29 ?_
 simp only [qq]
 refine tq 30 ?_
 simp only [qq]
 refine tq 31 ?_
 simp only [qq]
 refine tq 32 ?_
 simp only [qq]
 refine tq 33 ?_
 simp only [qq]
 refine tq 34 ?_
 simp only [qq]
 refine tq 35 ?_
 simp only [qq]
 refine tq 36 ?_
 simp only [qq]
 refine tq 37 ?_
 simp only [qq]
 refine tq 38 ?_
 simp only [qq]
 refine tq 39 ?_
 simp only [qq]
 refine tq 40 ?_
 simp only [qq]
 refine tq 41 ?_
 simp only [qq]
 refine tq 42 ?_
 simp only [qq]
 refine tq 43 ?_
 simp only [qq]
 refine wpAnyH_done (by kernel_rfl) ?_ _
 go_wp2_with fail
 clear hHeld
 have hg2:w00.grownBy w00.drew.drew none:=grown_none (grown_drewN w00 1) (grown_drewN _ 1)
 have HZ43:Hid (∀ v,w00.drew.drew.heap.size=v→v=w00.heap.size):=fun v h=>h.symm
 refine wp_region_held_drew (S:=fun w9=>(∀ o,w9.cell? ⟨b,o,none⟩=(#[Value.slice (some ⟨gg,0,none⟩) L.length lc,.int .i64 i,.bool false])[o]?)∧w9.cell? ⟨gg,i*3,none⟩=some (.int .i64 kk)∧w9.cell? ⟨gg,i*3+1,none⟩=some (.string tx)∧w9.cell? ⟨gg,i*3+2,none⟩=some (.int .i64 ta)) (by kernel_rfl) (HSS.out _ hg2) (fun hHeld=>?_)
 refine tq 0 ?_
 simp only [qq]
 refine tq 1 ?_
 simp only [qq]
 refine tq 2 ?_
 simp only [qq]
 refine tq 3 ?_
 simp only [qq]
 refine tq 4 ?_
 simp only [qq]
 refine tq 5 ?_
 simp only [qq]
 refine tq 6 ?_
 simp only [qq]
 refine tq 7 ?_
 simp only [qq]
 refine tq 8 ?_
 simp only [qq]
 refine tq 9 ?_
 simp only [qq]
 refine rq 10 fun K hK=>?_
 go_simp
 refine hK.out _ _ (HSS.out _ (grown_none hg2 (grown_alloc _ _))) (fun hHeld2=>?_)
 clear hK K
 try simp only [qq]
 have hq43:(w00.drew.drew.alloc (.cells #[.int .i64 0,.string ⟨#[]⟩,.int .i64 0] 44)).heap[w00.heap.size]?=some (.cells #[.int .i64 0,.string ⟨#[]⟩,.int .i64 0] 44 (0,0)):=heap_alloc_new w00.drew.drew _
 have hc43:=cells_at hq43
 have hf43:=frozen_at hq43
 refine rq 11 fun K hK=>?_
 go_simp
 have hgT:w00.grownBy (w00.alloc (.cells #[.int .i64 kk,.string tx,.int .i64 ta] 44)).drew.drew none:=grown_none (grown_none (grown_alloc w00 _) (grown_drewN _ 1)) (grown_drewN _ 1)
 refine hK.out _ _ (HSS.out _ hgT) (fun hHeld3=>?_)
 clear hK K
 refine wpAnyH_done (by kernel_rfl) ?_ _
 have hq3:(w00.alloc (.cells #[.int .i64 kk,.string tx,.int .i64 ta] 44)).drew.drew.heap[w00.heap.size]?=some (.cells #[.int .i64 kk,.string tx,.int .i64 ta] 44 (0,0)):=heap_alloc_new w00 _
 have hzT:(w00.alloc (.cells #[.int .i64 kk,.string tx,.int .i64 ta] 44)).drew.drew.heap.size=w00.heap.size+1:=by show (w00.alloc (.cells #[.int .i64 kk,.string tx,.int .i64 ta] 44)).heap.size=_;simp
 have HR2:=ħ (HR0.out.kept hgT)
 have HB2:=ħ (HB0.out.keep hgT)
 have HG2:=ħ (grown_none HG0.out hgT)
 have H43:=ħ hq3
 clear hHeld hHeld2 hHeld3 hq43 hc43 hf43 hgT hq3 hg2 HZ43 hcr hu0 hu1 hu2
 generalize (w00.alloc (.cells #[.int .i64 kk,.string tx,.int .i64 ta] 44)).drew.drew=w2 at *
 obtain ⟨la2,lc2,hrb2,-⟩:=HR2.out.blk
 have hcr:=cells_at hrb2
 have hfr:=frozen_at hrb2
 have hw2:IntKind.i64.wrap ((i:Int)+1)=(i:Int)+1:=by rw [IntKind.wrap_i64];omega
 obtain ⟨r1,r2⟩:=HR2.out.step hi
 have HB3:=ħ (HB2.out.next HR2.out r2)
 have HG3:=ħ (grown_app HG2.out r2)
 have HR3:=ħ r1
 have hb43:b≠w00.heap.size:=fun e=>by have h9:=H43.out;rw [← e,hrb2] at h9;simp at h9
 have H433:Hid ((w2.setCell ⟨b,1,none⟩ (.int .i64 ((i:Int)+1))).heap[w00.heap.size]?=some (.cells #[.int .i64 kk,.string tx,.int .i64 ta] 44 (0,0))):=(r2.block w00.heap.size (by omega) (fun e=>by injection e with e;exact hb43 e.symm)).trans H43.out
 have hz3:(w2.setCell ⟨b,1,none⟩ (.int .i64 ((i:Int)+1))).heap.size=w00.heap.size+1:=by simpa [World.setCell] using hzT
 have hc43:=cells_at H433.out
 clear r1 r2 hrb2
 go_wp2_with fail
 have HR4:=ħ (HR3.out.alloc (.cells #[.int .i64 22,.string ⟨#[]⟩,.int .i64 0,.slice none 0 0] 24))
 have HB4:=ħ (HB3.out.keep (grown_alloc _ (.cells #[.int .i64 22,.string ⟨#[]⟩,.int .i64 0,.slice none 0 0] 24)))
 have HG4:=ħ (grown_none HG3.out (grown_alloc _ (.cells #[.int .i64 22,.string ⟨#[]⟩,.int .i64 0,.slice none 0 0] 24)))
 have H434:Hid (((w2.setCell ⟨b,1,none⟩ (.int .i64 ((i:Int)+1))).alloc (.cells #[.int .i64 22,.string ⟨#[]⟩,.int .i64 0,.slice none 0 0] 24)).heap[w00.heap.size]?=some (.cells #[.int .i64 kk,.string tx,.int .i64 ta] 44 (0,0))):=(Below.heap_alloc _ _ _ (by omega)).trans H433.out
 have HN4:Hid (Bx ((w2.setCell ⟨b,1,none⟩ (.int .i64 ((i:Int)+1))).alloc (.cells #[.int .i64 22,.string ⟨#[]⟩,.int .i64 0,.slice none 0 0] 24)) (w00.heap.size+1) #[.int .i64 22,.string ⟨#[]⟩,.int .i64 0,.slice none 0 0]):=by
  have h9:=heap_alloc_new (w2.setCell ⟨b,1,none⟩ (.int .i64 ((i:Int)+1))) (.cells #[.int .i64 22,.string ⟨#[]⟩,.int .i64 0,.slice none 0 0] 24)
  rw [hz3] at h9
  exact h9
 clear hc43 hcr hfr HB3 HG3 HR3 H433
 generalize (w2.setCell _ _).alloc _=w4 at *
 have hqc:w.heap.size≠w00.heap.size+1:=by have:=HB0.out.lt;omega
 have hqc2:w00.heap.size+1≠w.heap.size:=by omega
 have hqT:w00.heap.size≠w00.heap.size+1:=by omega
 have hqT2:w.heap.size≠w00.heap.size:=by have:=HB0.out.lt;omega
 go_loopw [5] (fun i' wr=>∃ k:Nat,k≤tx.size∧i'=.int .i64 k∧Hid (Rd gg wr b L (i+1) false)∧Hid (Bx wr w.heap.size #[.int .i64 0,.string ⟨#[]⟩,.int .i64 0,.slice none 0 0])∧Hid (w.grownBy wr (some b))∧Hid (wr.heap[w00.heap.size]?=some (.cells #[.int .i64 kk,.string tx,.int .i64 ta] 44 (0,0)))∧Hid (Bx wr (w00.heap.size+1) #[.int .i64 22,.string ⟨#[]⟩,.int .i64 (dv tx k),.slice none 0 0])) (fun i' _=>tx.size - (intOf i').toNat)
 case atStart=>exact ⟨0,Nat.zero_le _,rfl,HR4,HB4,HG4,H434,HN4⟩
 case round=>
  obtain ⟨k,hk2,rfl,HRk,HBk,HGk,HTk,HNk⟩:=hrel
  clear HR4 HB4 HG4 H434 HN4
  have hcT:=cells_at HTk.out
  have hcN:=cells_at HNk.out
  have hfN:=frozen_at HNk.out
  have hlN:=HNk.out.lt
  by_cases hlt:k<tx.size
  ·have hlt':(k:Int)<tx.size:=by omega
   have hidk:(0:Int)≤k∧(k:Int)<tx.size:=by omega
   obtain ⟨d1,d2,d3,d4,d5⟩:=dv_step tx k hlt hAD hmax
   have HD:=ħ d1
   have ha:IntKind.u8.wrap ((tx[k].toNat:Int) - 48)=(tx[k].toNat:Int) - 48:=by rw [IntKind.wrap_u8];omega
   have hm:IntKind.i64.wrap (10*dv tx k)=10*dv tx k:=by rw [IntKind.wrap_i64];omega
   have hcv:IntKind.i64.wrap ((tx[k].toNat:Int) - 48)=(tx[k].toNat:Int) - 48:=by rw [IntKind.wrap_i64];omega
   have hadd:IntKind.i64.wrap (10*dv tx k+((tx[k].toNat:Int) - 48))=10*dv tx k+((tx[k].toNat:Int) - 48):=by rw [IntKind.wrap_i64];omega
   go_wp2_with fail
   have HTd:Hid (∀ o,wr.drew.cell? ⟨w00.heap.size,o,none⟩=(#[.int .i64 kk,.string tx,.int .i64 ta]:Array Value)[o]?):=cells_at (show wr.drew.heap[w00.heap.size]?=_ from HTk.out)
   have hcNd:∀ o,wr.drew.cell? ⟨w00.heap.size+1,o,none⟩=(#[Value.int .i64 22,.string ⟨#[]⟩,.int .i64 (dv tx k),.slice none 0 0])[o]?:=cells_at (show wr.drew.heap[w00.heap.size+1]?=_ from HNk.out)
   have hfNd:∀ o,wr.drew.frozen? ⟨w00.heap.size+1,o,none⟩=false:=frozen_at (show wr.drew.heap[w00.heap.size+1]?=_ from HNk.out)
   refine wp_region_held_drew (S:=fun w9=>∀ o,w9.cell? ⟨w00.heap.size,o,none⟩=(#[.int .i64 kk,.string tx,.int .i64 ta]:Array Value)[o]?) (by kernel_rfl) HTd.out (fun hHeld=>?_)
   refine tq 0 ?_
   simp only [qq]
   refine tq 3 ?_
   simp only [qq]
   refine tq 4 ?_
   simp only [qq]
   refine tq 5 ?_
   simp only [qq]
   refine tq 6 ?_
   simp only [qq]
   refine tq 7 ?_
   simp only [qq]
   refine tq 8 ?_
   simp only [qq]
   refine rq 1 fun K hK=>?_
   go_simp
   refine hK.out _ _ HTd.out (fun hHeld2=>?_)
   clear hK K
   try simp only [qq]
   refine tq 2 ?_
   simp only [qq]
   refine tq 9 ?_
   simp only [qq]
   refine tq 10 ?_
   simp only [qq]
   refine rq 11 fun K hK=>?_
   go_simp
   have hT5:(wr.setCell ⟨w00.heap.size+1,2,none⟩ (.int .i64 (10*dv tx k+((tx[k].toNat:Int) - 48)))).drew.heap[w00.heap.size]?=some (.cells #[.int .i64 kk,.string tx,.int .i64 ta] 44 (0,0)):=(Below.heap_setCell _ _ _ w00.heap.size hqT).trans HTk.out
   have hN5:Bx (wr.setCell ⟨w00.heap.size+1,2,none⟩ (.int .i64 (10*dv tx k+((tx[k].toNat:Int) - 48)))).drew (w00.heap.size+1) #[.int .i64 22,.string ⟨#[]⟩,.int .i64 (dv tx (k+1)),.slice none 0 0]:=by rw [HD.out];exact HNk.out.set_same
   have hB5:Bx (wr.setCell ⟨w00.heap.size+1,2,none⟩ (.int .i64 (10*dv tx k+((tx[k].toNat:Int) - 48)))).drew w.heap.size #[.int .i64 0,.string ⟨#[]⟩,.int .i64 0,.slice none 0 0]:=HBk.out.set hqc
   have HR5:Hid (Rd gg (wr.setCell ⟨w00.heap.size+1,2,none⟩ (.int .i64 (10*dv tx k+((tx[k].toNat:Int) - 48)))).drew b L (i+1) false):=(HRk.out.set HNk.out).kept (grown_drewN _ 1)
   have HG5:Hid (w.grownBy (wr.setCell ⟨w00.heap.size+1,2,none⟩ (.int .i64 (10*dv tx k+((tx[k].toNat:Int) - 48)))).drew (some b)):=grown_none (grown_set HGk.out (by have:=HB0.out.lt;omega)) (grown_drewN _ 1)
   refine hK.out _ _ (cells_at hT5) (fun hHeld3=>?_)
   clear hK K
   refine wpAnyH_done (by kernel_rfl) ?_ _
   have HT5:=ħ hT5
   have HN5:=ħ hN5
   have HB5:=ħ hB5
   clear hT5 hN5 hB5 hHeld hHeld2 hHeld3 hcT hcN hfN hcNd hfNd
   generalize (wr.setCell ⟨w00.heap.size+1,2,none⟩ (.int .i64 (10*dv tx k+((tx[k].toNat:Int) - 48)))).drew=w5 at *
   go_wp2_with fail
   go_roundw
   case rel=>exact ⟨k+1,by omega,by go_num,HR5,HB5,HG5,HT5,HN5⟩
   case measure=>simp [intOf];omega
  have hlt':¬ (k:Int)<tx.size:=by omega
  have hke:k=tx.size:=by omega
  have HNum:Hid (number (left L i)=some (.ok (.nd (.mk 22 [] (dv tx k) [])) (left L (i+1)))):=by
   show _=_
   rw [HT.out]
   show (if (tk L[i]).kind=2 then _ else if (tk L[i]).kind=3 then _ else _)=_
   rw [if_neg (show ¬ (tk L[i]).kind=2 by rw [HKi.out];decide),if_pos HKi.out,hke]
   have e9:dv tx tx.size=digits (tk L[i]).text 0:=by
    unfold dv
    rw [HTx.out,List.take_of_length_le (by rw [Array.length_toList];exact Nat.le_refl _)]
    rfl
   rw [e9]
  clear hke
  have hcq:=cells_at HBk.out
  have hfq:=frozen_at HBk.out
  obtain ⟨m1,m2,m3⟩:=set4 (.int .i64 22) (.string ⟨#[]⟩) (.int .i64 (dv tx k)) (.slice none 0 0) HBk.out
  have hc3:=cells_at m1
  have hl3:=(Array.getElem?_eq_some_iff.1 m1).1
  have HE:=ħ (And.intro (m2 _ _ _ _ HRk.out) (m3 w _ HGk.out (Nat.le_refl _)))
  clear m1 m2 m3
  generalize dv tx k=dd at *
  go_wp2_with fail
  generalize ((((wr.setCell ⟨w.heap.size,0,none⟩ (.int .i64 22)).setCell ⟨w.heap.size,1,none⟩ (.string ⟨#[]⟩)).setCell ⟨w.heap.size,2,none⟩ (.int .i64 dd)).setCell ⟨w.heap.size,3,none⟩ (.slice none 0 0))=X at *
  refine bodyPost_ret (v:=.agg #[.int .i64 22,.string ⟨#[]⟩,.int .i64 dd,.slice none 0 0]) (by simp [results,Tryz.results34,go_sem,hc3,hl3]) rfl ?_
  exact ⟨HE.out.2,i+1,_,by omega,rfl,Or.inl ⟨.mk 22 [] dd [],HNum.out,NdV.bare 22 [] dd none 0,HE.out.1⟩⟩
end Go.Proofs.YthcfianhdkolhaaGreatDoor.Y.Z.V
