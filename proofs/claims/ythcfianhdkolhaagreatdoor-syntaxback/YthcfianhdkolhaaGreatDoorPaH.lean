/- PaE PaF PaG PaH -/
import Derived.Test.YthcfianhdkolhaaGreatDoorPaD
import Derived.Test.YthcfianhdkolhaaGreatDoorParts
namespace Go.Proofs.YthcfianhdkolhaaGreatDoor.Y
open Go.RowKit Go.Proofs.YthcfianhdkolhaaGreatDoor.X Go.Proofs.YthcfianhdkolhaaGreatDoor.T Go.Proofs.YthcfianhdkolhaaGreatDoor.S
set_option maxRecDepth 100000
set_option maxHeartbeats 2000000
set_option linter.unusedVariables false
set_option linter.unusedSimpArgs false
variable {w : World} {b g : Nat} {m : Value} {ts : List Tok} {t : Tok}
theorem Ps.tok (h:Ps w b g m (t::ts)):g<w.heap.size:=by
 obtain ⟨a,o,c,h1,h2,h3,h4,h5⟩:=h.blk
 exact World.block_lt_of_cell? w ⟨g,o+0*3,none⟩ (h5 0 (by simp)).1
theorem Ps.set (h:Ps w b g m ts) {q i:Nat} {x:Value} (hq:q≠b) (hg:q≠g):Ps (w.setCell ⟨q,i,none⟩ x) b g m ts:=by
 obtain ⟨a,o,c,h1,h2,h3,h4,h5⟩:=h.blk
 exact ⟨h.ne,a,o,c,(heap_setCell_other w _ b x (fun e=>hq e.symm)).trans h1,h2,h3,h4,h5.same (heap_setCell_other w _ g x (fun e=>hg e.symm))⟩
theorem grown_set {a w:World} {r:Option Nat} {q o:Nat} {x:Value} (h:a.grownBy w r) (hq:a.heap.size≤q):a.grownBy (w.setCell ⟨q,o,none⟩ x) r:=
 ⟨h.os,h.tape,h.output,by simpa using h.size,fun k hk hn=>(heap_setCell_other w _ k x (fun e=>by have:k=q:=e;omega)).trans (h.block k hk hn)⟩
theorem set4 {w:World} {q:Nat} {c0 c1 c2 c3:Value} (a b c d:Value) (hq:w.heap[q]?=some (.cells #[c0,c1,c2,c3] 24 (0,0))):
  ((((w.setCell ⟨q,0,none⟩ a).setCell ⟨q,1,none⟩ b).setCell ⟨q,2,none⟩ c).setCell ⟨q,3,none⟩ d).heap[q]?=some (.cells #[a,b,c,d] 24 (0,0)) ∧
  (∀ bb g m ts,q≠bb→q≠g→Ps w bb g m ts→Ps ((((w.setCell ⟨q,0,none⟩ a).setCell ⟨q,1,none⟩ b).setCell ⟨q,2,none⟩ c).setCell ⟨q,3,none⟩ d) bb g m ts) ∧
  (∀ z r,World.grownBy z w r→z.heap.size≤q→z.grownBy ((((w.setCell ⟨q,0,none⟩ a).setCell ⟨q,1,none⟩ b).setCell ⟨q,2,none⟩ c).setCell ⟨q,3,none⟩ d) r):=by
 have k0:(w.setCell ⟨q,0,none⟩ a).heap[q]?=some (.cells #[a,c1,c2,c3] 24 (0,0)):=(heap_setCell_same w q 0 _ 24 _ hq).trans rfl
 have k1:((w.setCell ⟨q,0,none⟩ a).setCell ⟨q,1,none⟩ b).heap[q]?=some (.cells #[a,b,c2,c3] 24 (0,0)):=(heap_setCell_same _ q 1 _ 24 _ k0).trans rfl
 have k2:(((w.setCell ⟨q,0,none⟩ a).setCell ⟨q,1,none⟩ b).setCell ⟨q,2,none⟩ c).heap[q]?=some (.cells #[a,b,c,c3] 24 (0,0)):=(heap_setCell_same _ q 2 _ 24 _ k1).trans rfl
 have k3:((((w.setCell ⟨q,0,none⟩ a).setCell ⟨q,1,none⟩ b).setCell ⟨q,2,none⟩ c).setCell ⟨q,3,none⟩ d).heap[q]?=some (.cells #[a,b,c,d] 24 (0,0)):=(heap_setCell_same _ q 3 _ 24 _ k2).trans rfl
 exact ⟨k3,fun bb g m ts h1 h2 h=>(((h.set h1 h2).set h1 h2).set h1 h2).set h1 h2,fun z r h hz=>grown_set (grown_set (grown_set (grown_set h hz) hz) hz) hz⟩
theorem parse_any (s:ByteArray) (hs:s.size≤9223372036854775806) (v:Int) (h:Lib.parseIntB 64 s.data.toList=.ok v) (w:World):Calls Tryz.prog 64 #[.string s,.int .i64 10,.int .i64 64] w fun e w'=>e=.returned (.tuple #[.int .i64 v,.nilIface])∧w.grownBy w' none:=by
 refine (Tryz.strconv_ParseInt_10_at64_ok s hs v h w).mono ?_
 rintro e w' ⟨rfl,rfl|⟨t,rfl⟩⟩
 ·exact ⟨rfl,rfl,rfl,rfl,Nat.le_refl _,fun _ _ _=>rfl⟩
 ·have hb:=Lib.bytesWorld_below w 5 t
  exact ⟨rfl,hb.os,hb.tape,hb.output,hb.size,fun k hk _=>hb.block k hk⟩
theorem number_k2 (h:Ps w b g m (t::ts)) (hF:Fit t) (hk:t.kind=2):Calls Tryz.prog 124 #[.pointer (some ⟨b,0,none⟩)] w (NumP w b g m (t::ts)):=by
 have hA:=h.alloc (.cells #[.int .i64 0,.string ⟨#[]⟩,.int .i64 0,.slice none 0 0] 24)
 have hA0:=hA.alloc (.cells #[.int .i64 21,.string ⟨#[]⟩,.int .i64 0,.slice none 0 0] 24)
 have hA2:=hA.alloc (.cells #[.int .i64 21,.string ⟨#[]⟩,.int .i64 0,.slice none 0 0] 24)
 obtain ⟨a,o,c,h1,h2,h3,h4,h5⟩:=hA.blk
 have hc:=cells_at h1
 obtain rfl:=h4 (by simp)
 obtain ⟨a',o',c',h1',h2',h3',h4',h5'⟩:=hA0.blk
 have hc':=cells_at h1'
 obtain rfl:=h4' (by simp)
 obtain ⟨k0,k1,k2⟩:=h5' 0 (by simp)
 simp only [Nat.zero_mul,Nat.add_zero,List.getElem_cons_zero] at k0 k1 k2
 rw [hk] at k0
 have hbl:=h.lt
 have hgl:=h.tok
 have HT:=hide (text_any hA2)
 have HPI:=hide (parse_any t.text (by have:=hF.short;omega) _ (hF.num (by rw [hk];decide)).2)
 have HG2:=hide (grown_none (grown_alloc w (.cells #[.int .i64 0,.string ⟨#[]⟩,.int .i64 0,.slice none 0 0] 24)) (grown_alloc (w.alloc (.cells #[.int .i64 0,.string ⟨#[]⟩,.int .i64 0,.slice none 0 0] 24)) (.cells #[.int .i64 21,.string ⟨#[]⟩,.int .i64 0,.slice none 0 0] 24)))
 have HA2:=hide hA2
 have HS1:Hid (((w.alloc (.cells #[.int .i64 0,.string ⟨#[]⟩,.int .i64 0,.slice none 0 0] 24)).alloc (.cells #[.int .i64 21,.string ⟨#[]⟩,.int .i64 0,.slice none 0 0] 24)).heap[w.heap.size+1]?=some (.cells #[.int .i64 21,.string ⟨#[]⟩,.int .i64 0,.slice none 0 0] 24 (0,0))):=by
  have:=heap_new (w.alloc (.cells #[.int .i64 0,.string ⟨#[]⟩,.int .i64 0,.slice none 0 0] 24)) #[.int .i64 21,.string ⟨#[]⟩,.int .i64 0,.slice none 0 0] 24
  rw [World.size_alloc] at this
  exact this
 have HS0:Hid (((w.alloc (.cells #[.int .i64 0,.string ⟨#[]⟩,.int .i64 0,.slice none 0 0] 24)).alloc (.cells #[.int .i64 21,.string ⟨#[]⟩,.int .i64 0,.slice none 0 0] 24)).heap[w.heap.size]?=some (.cells #[.int .i64 0,.string ⟨#[]⟩,.int .i64 0,.slice none 0 0] 24 (0,0))):=by
  have h1:=heap_new w #[.int .i64 0,.string ⟨#[]⟩,.int .i64 0,.slice none 0 0] 24
  exact (Below.heap_alloc _ _ _ (by simp)).trans h1
 have hl:((t::ts).length:Int)≠0:=by rw [List.length_cons];omega
 have hl0:(0:Int)<((t::ts).length:Int):=by rw [List.length_cons];omega
 have HN:Hid (number (tk (t::ts))=some (.ok (.nd (.mk 21 [] (digits t.text.data.toList 0) [])) (tk ts))):=by
  show number (⟨t.kind,t.text.data.toList⟩::tk ts)=_
  unfold number
  simp only
  rw [hk]
  rfl
 generalize (t::ts).length=n at *
 generalize digits t.text.data.toList 0=v at *
 clear h h1 h4 h5 hA h1' h4' h5' hA2 hA0 hk hF
 go_enter Tryz.func124,Tryz.ntmps124
 go_wp2_with fail
 go_at_call 91
 refine HT.out.mono ?_
 rintro e w1 ⟨rfl,rfl⟩
 go_wp2_with fail
 go_at_call 64
 refine (HPI.out _).mono ?_
 rintro e w2 ⟨rfl,hG⟩
 have HB1:=hide ((hG.block (w.heap.size+1) (by simp) (by simp)).trans HS1.out)
 have HB0:=hide ((hG.block w.heap.size (by simp;omega) (by simp)).trans HS0.out)
 have HP2:=hide (HA2.out.grown hG)
 have HGG:=hide (grown_none HG2.out hG)
 clear hG HS1 HS0 HT HPI HA2 HG2
 have hcq:=cells_at HB1.out
 have hfq:=frozen_at HB1.out
 have k3:(w2.setCell ⟨w.heap.size+1,2,none⟩ (.int .i64 v)).heap[w.heap.size+1]?=some (.cells #[.int .i64 21,.string ⟨#[]⟩,.int .i64 v,.slice none 0 0] 24 (0,0)):=(heap_setCell_same w2 _ 2 _ 24 _ HB1.out).trans rfl
 have k4:=(heap_setCell_other w2 ⟨w.heap.size+1,2,none⟩ w.heap.size (.int .i64 v) (by show w.heap.size≠w.heap.size+1;omega)).trans HB0.out
 have HP3:=hide (HP2.out.set (q:=w.heap.size+1) (i:=2) (x:=.int .i64 v) (by omega) (by omega))
 have HG3:=hide (grown_set (q:=w.heap.size+1) (o:=2) (x:=.int .i64 v) HGG.out (by omega))
 have H3:=hide k3
 have H4:=hide k4
 clear k3 k4 HP2 HGG HB1 HB0
 go_wp2_with fail
 generalize w2.setCell _ _=w3 at *
 go_at_call 92
 refine (pass_any HP3.out).mono ?_
 rintro e w4 ⟨rfl,hP4,hG4⟩
 have h31:=(Array.getElem?_eq_some_iff.1 H3.out).1
 have h41:=(Array.getElem?_eq_some_iff.1 H4.out).1
 have H5:=hide ((hG4.block (w.heap.size+1) h31 (fun e=>by have:=Option.some.inj e;omega)).trans H3.out)
 have H6:=hide ((hG4.block w.heap.size h41 (fun e=>by have:=Option.some.inj e;omega)).trans H4.out)
 have hc5:=cells_at H5.out
 have hc6:=cells_at H6.out
 have hf6:=frozen_at H6.out
 obtain ⟨m1,m2,m3⟩:=set4 (.int .i64 21) (.string ⟨#[]⟩) (.int .i64 v) (.slice none 0 0) H6.out
 have hc7:=cells_at m1
 have hl7:=(Array.getElem?_eq_some_iff.1 m1).1
 have HG4:Hid (w.grownBy w4 (some b)):=⟨hG4.os.trans HG3.out.os,hG4.tape.trans HG3.out.tape,hG4.output.trans HG3.out.output,Nat.le_trans HG3.out.size hG4.size,fun k hk hn=>(hG4.block k (Nat.lt_of_lt_of_le hk HG3.out.size) hn).trans (HG3.out.block k hk (by simp))⟩
 have HE:=hide (And.intro (m2 b g m ts (by omega) (by omega) hP4) (m3 w _ HG4.out (Nat.le_refl _)))
 clear m1 m2 m3 hP4 hG4 H3 H4 H5 H6 HG3 HG4 HP3 h31 h41
 go_wp2_with fail
 generalize ((((w4.setCell ⟨w.heap.size,0,none⟩ (.int .i64 21)).setCell ⟨w.heap.size,1,none⟩ (.string ⟨#[]⟩)).setCell ⟨w.heap.size,2,none⟩ (.int .i64 v)).setCell ⟨w.heap.size,3,none⟩ (.slice none 0 0))=X at *
 refine bodyPost_ret (v:=(.agg #[.int .i64 21,.string ⟨#[]⟩,.int .i64 v,.slice none 0 0])) (by simp [results,Tryz.results124,go_sem,hc7,hl7]) rfl ?_
 exact ⟨HE.out.2,Or.inl ⟨21,v,HN.out,rfl,HE.out.1⟩⟩
theorem number_k3 (h:Ps w b g m (t::ts)) (hF:Fit t) (hk:t.kind=3):Calls Tryz.prog 124 #[.pointer (some ⟨b,0,none⟩)] w (NumP w b g m (t::ts)):=by
 have hA:=h.alloc (.cells #[.int .i64 0,.string ⟨#[]⟩,.int .i64 0,.slice none 0 0] 24)
 have hA0:=hA.alloc (.cells #[.int .i64 21,.string ⟨#[]⟩,.int .i64 0,.slice none 0 0] 24)
 have hA2:=hA.alloc (.cells #[.int .i64 22,.string ⟨#[]⟩,.int .i64 0,.slice none 0 0] 24)
 obtain ⟨a,o,c,h1,h2,h3,h4,h5⟩:=hA.blk
 have hc:=cells_at h1
 obtain rfl:=h4 (by simp)
 obtain ⟨a',o',c',h1',h2',h3',h4',h5'⟩:=hA0.blk
 have hc':=cells_at h1'
 obtain rfl:=h4' (by simp)
 obtain ⟨k0,k1,k2⟩:=h5' 0 (by simp)
 simp only [Nat.zero_mul,Nat.add_zero,List.getElem_cons_zero] at k0 k1 k2
 rw [hk] at k0
 have hbl:=h.lt
 have hgl:=h.tok
 have HT:=hide (text_any hA2)
 have HPI:=hide (parse_any t.text (by have:=hF.short;omega) _ (hF.num (by rw [hk];decide)).2)
 have HG2:=hide (grown_none (grown_alloc w (.cells #[.int .i64 0,.string ⟨#[]⟩,.int .i64 0,.slice none 0 0] 24)) (grown_alloc (w.alloc (.cells #[.int .i64 0,.string ⟨#[]⟩,.int .i64 0,.slice none 0 0] 24)) (.cells #[.int .i64 22,.string ⟨#[]⟩,.int .i64 0,.slice none 0 0] 24)))
 have HA2:=hide hA2
 have HS1:Hid (((w.alloc (.cells #[.int .i64 0,.string ⟨#[]⟩,.int .i64 0,.slice none 0 0] 24)).alloc (.cells #[.int .i64 22,.string ⟨#[]⟩,.int .i64 0,.slice none 0 0] 24)).heap[w.heap.size+1]?=some (.cells #[.int .i64 22,.string ⟨#[]⟩,.int .i64 0,.slice none 0 0] 24 (0,0))):=by
  have:=heap_new (w.alloc (.cells #[.int .i64 0,.string ⟨#[]⟩,.int .i64 0,.slice none 0 0] 24)) #[.int .i64 22,.string ⟨#[]⟩,.int .i64 0,.slice none 0 0] 24
  rw [World.size_alloc] at this
  exact this
 have HS0:Hid (((w.alloc (.cells #[.int .i64 0,.string ⟨#[]⟩,.int .i64 0,.slice none 0 0] 24)).alloc (.cells #[.int .i64 22,.string ⟨#[]⟩,.int .i64 0,.slice none 0 0] 24)).heap[w.heap.size]?=some (.cells #[.int .i64 0,.string ⟨#[]⟩,.int .i64 0,.slice none 0 0] 24 (0,0))):=by
  have h1:=heap_new w #[.int .i64 0,.string ⟨#[]⟩,.int .i64 0,.slice none 0 0] 24
  exact (Below.heap_alloc _ _ _ (by simp)).trans h1
 have hl:((t::ts).length:Int)≠0:=by rw [List.length_cons];omega
 have hl0:(0:Int)<((t::ts).length:Int):=by rw [List.length_cons];omega
 have HN:Hid (number (tk (t::ts))=some (.ok (.nd (.mk 22 [] (digits t.text.data.toList 0) [])) (tk ts))):=by
  show number (⟨t.kind,t.text.data.toList⟩::tk ts)=_
  unfold number
  simp only
  rw [hk]
  rfl
 generalize (t::ts).length=n at *
 generalize digits t.text.data.toList 0=v at *
 clear h h1 h4 h5 hA h1' h4' h5' hA2 hA0 hk hF
 go_enter Tryz.func124,Tryz.ntmps124
 go_wp2_with fail
 go_at_call 91
 refine HT.out.mono ?_
 rintro e w1 ⟨rfl,rfl⟩
 go_wp2_with fail
 go_at_call 64
 refine (HPI.out _).mono ?_
 rintro e w2 ⟨rfl,hG⟩
 have HB1:=hide ((hG.block (w.heap.size+1) (by simp) (by simp)).trans HS1.out)
 have HB0:=hide ((hG.block w.heap.size (by simp;omega) (by simp)).trans HS0.out)
 have HP2:=hide (HA2.out.grown hG)
 have HGG:=hide (grown_none HG2.out hG)
 clear hG HS1 HS0 HT HPI HA2 HG2
 have hcq:=cells_at HB1.out
 have hfq:=frozen_at HB1.out
 have k3:(w2.setCell ⟨w.heap.size+1,2,none⟩ (.int .i64 v)).heap[w.heap.size+1]?=some (.cells #[.int .i64 22,.string ⟨#[]⟩,.int .i64 v,.slice none 0 0] 24 (0,0)):=(heap_setCell_same w2 _ 2 _ 24 _ HB1.out).trans rfl
 have k4:=(heap_setCell_other w2 ⟨w.heap.size+1,2,none⟩ w.heap.size (.int .i64 v) (by show w.heap.size≠w.heap.size+1;omega)).trans HB0.out
 have HP3:=hide (HP2.out.set (q:=w.heap.size+1) (i:=2) (x:=.int .i64 v) (by omega) (by omega))
 have HG3:=hide (grown_set (q:=w.heap.size+1) (o:=2) (x:=.int .i64 v) HGG.out (by omega))
 have H3:=hide k3
 have H4:=hide k4
 clear k3 k4 HP2 HGG HB1 HB0
 go_wp2_with fail
 generalize w2.setCell _ _=w3 at *
 go_at_call 92
 refine (pass_any HP3.out).mono ?_
 rintro e w4 ⟨rfl,hP4,hG4⟩
 have h31:=(Array.getElem?_eq_some_iff.1 H3.out).1
 have h41:=(Array.getElem?_eq_some_iff.1 H4.out).1
 have H5:=hide ((hG4.block (w.heap.size+1) h31 (fun e=>by have:=Option.some.inj e;omega)).trans H3.out)
 have H6:=hide ((hG4.block w.heap.size h41 (fun e=>by have:=Option.some.inj e;omega)).trans H4.out)
 have hc5:=cells_at H5.out
 have hc6:=cells_at H6.out
 have hf6:=frozen_at H6.out
 obtain ⟨m1,m2,m3⟩:=set4 (.int .i64 22) (.string ⟨#[]⟩) (.int .i64 v) (.slice none 0 0) H6.out
 have hc7:=cells_at m1
 have hl7:=(Array.getElem?_eq_some_iff.1 m1).1
 have HG4:Hid (w.grownBy w4 (some b)):=⟨hG4.os.trans HG3.out.os,hG4.tape.trans HG3.out.tape,hG4.output.trans HG3.out.output,Nat.le_trans HG3.out.size hG4.size,fun k hk hn=>(hG4.block k (Nat.lt_of_lt_of_le hk HG3.out.size) hn).trans (HG3.out.block k hk (by simp))⟩
 have HE:=hide (And.intro (m2 b g m ts (by omega) (by omega) hP4) (m3 w _ HG4.out (Nat.le_refl _)))
 clear m1 m2 m3 hP4 hG4 H3 H4 H5 H6 HG3 HG4 HP3 h31 h41
 go_wp2_with fail
 generalize ((((w4.setCell ⟨w.heap.size,0,none⟩ (.int .i64 22)).setCell ⟨w.heap.size,1,none⟩ (.string ⟨#[]⟩)).setCell ⟨w.heap.size,2,none⟩ (.int .i64 v)).setCell ⟨w.heap.size,3,none⟩ (.slice none 0 0))=X at *
 refine bodyPost_ret (v:=(.agg #[.int .i64 22,.string ⟨#[]⟩,.int .i64 v,.slice none 0 0])) (by simp [results,Tryz.results124,go_sem,hc7,hl7]) rfl ?_
 exact ⟨HE.out.2,Or.inl ⟨22,v,HN.out,rfl,HE.out.1⟩⟩
theorem number_any (h:Ps w b g m ts) (hF:Fits ts):Calls Tryz.prog 124 #[.pointer (some ⟨b,0,none⟩)] w (NumP w b g m ts):=by
 cases ts with
 | nil=>exact number_nil h
 | cons t ts=>
  by_cases h2:t.kind=2
  ·exact number_k2 h (hF t (List.mem_cons_self)) h2
  ·by_cases h3:t.kind=3
   ·exact number_k3 h (hF t (List.mem_cons_self)) h3
   ·exact number_no h (fun e=>e.elim h2 h3)
end Go.Proofs.YthcfianhdkolhaaGreatDoor.Y
namespace Go.Proofs.YthcfianhdkolhaaGreatDoor.Y
open Go.RowKit Go.Proofs.YthcfianhdkolhaaGreatDoor.X Go.Proofs.YthcfianhdkolhaaGreatDoor.T Go.Proofs.YthcfianhdkolhaaGreatDoor.S
set_option linter.unusedVariables false
set_option linter.unusedSimpArgs false
variable {w w' : World} {b g : Nat} {m : Value} {ts : List Tok} {t : Tok}
def twoOf (s:ByteArray):Int × Int × Bool:=if s=str sINT then (9,30,true) else if s=str sLONG then (10,31,true) else (0,0,false)
def Two (w:World) (b:Nat) (m:Value):Prop:=∃ mb,m=.map (some mb)∧mb≠b∧mb<w.heap.size∧∀ w':World,w'.heap[mb]?=w.heap[mb]?→∀ s:ByteArray,s.size≤4000 →
 (Instr.lookup 53 m (.string s) true).run Tryz.prog w'=.ok (.tuple #[.agg #[.int .i64 (twoOf s).1,.int .i64 (twoOf s).2.1],.bool (twoOf s).2.2]) w'
theorem Two.kept (h:Two w b m) (hg:w.grownBy w' (some b)):Two w' b m:=by
 obtain ⟨mb,rfl,h1,h2,h3⟩:=h
 have e:=hg.block mb h2 (fun e=>h1 (Option.some.inj e))
 exact ⟨mb,rfl,h1,Nat.lt_of_lt_of_le h2 hg.size,fun w'' hw s hs=>h3 w'' (hw.trans e) s hs⟩
theorem Two.look (h:Two w b m) (s:ByteArray) (hs:s.size≤4000):(Instr.lookup 53 m (.string s) true).run Tryz.prog w=.ok (.tuple #[.agg #[.int .i64 (twoOf s).1,.int .i64 (twoOf s).2.1],.bool (twoOf s).2.2]) w:=by
 obtain ⟨mb,rfl,h1,h2,h3⟩:=h
 exact h3 w rfl s hs
def PostN (q:G) (w:World) (b g:Nat) (m:Value) (ts:List Tok) (e:Ending) (w':World):Prop:=w.grownBy w' (some b)∧∃ r,r <:+ ts ∧
 ((∃ n v,r.length<ts.length∧R q (tk ts) (.ok (.nd n) (tk r))∧e=.returned v∧NdV w' (fun k=>w.heap.size≤k) n v∧Ps w' b g m r)∨(R q (tk ts) (.no (tk r))∧e=up r))
theorem Fits.suf {r:List Tok} (h:Fits ts) (hr:r <:+ ts):Fits r:=fun t ht=>h t (hr.subset ht)
theorem tk_tail (ts:List Tok):tk ts.tail=(tk ts).tail:=by cases ts<;>rfl
theorem hd_lt {ts:List Tok} {s:List UInt8} (h:hd (tk ts)=s) (hs:s≠[]):ts.tail.length<ts.length:=by
 cases ts with
 | nil=>exact absurd h.symm hs
 | cons t r=>simp
theorem nm_hd (h:Fits ts):nmAt ts 0=nameB (hd (tk ts)):=by
 cases ts with
 | nil=>rfl
 | cons t ts=>
  show nameB t.text.data.toList=nameB (Tk.txt ⟨t.kind,t.text.data.toList⟩)
  unfold Tk.txt
  by_cases hk:t.kind=2∨t.kind=3
  ·rw [if_pos hk]
   obtain ⟨⟨c,r,e,h1,h2⟩,_⟩:=(h t (List.mem_cons_self)).num hk
   rw [e]
   have:letB c.toNat=false:=by unfold letB;simp;omega
   have h0:signB (c::r) 0=false:=by simp [signB,this]
   simp only [nameB,List.length_nil,List.range_zero,List.all_nil]
   have ha:((List.range (c::r).length).all fun i=>signB (c::r) i)=false:=by
    rw [List.all_eq_false]
    exact ⟨0,by simp,by simp [h0]⟩
   rw [ha]
   simp
  ·rw [if_neg hk]
end Go.Proofs.YthcfianhdkolhaaGreatDoor.Y
namespace Go.Proofs.YthcfianhdkolhaaGreatDoor.Y
open Go.RowKit Go.Proofs.YthcfianhdkolhaaGreatDoor.X Go.Proofs.YthcfianhdkolhaaGreatDoor.T Go.Proofs.YthcfianhdkolhaaGreatDoor.S
set_option maxRecDepth 100000
set_option maxHeartbeats 2000000
set_option linter.unusedVariables false
set_option linter.unusedSimpArgs false
variable {w w' : World} {b g : Nat} {m : Value} {ts : List Tok} {t : Tok}
def Ask1 (w:World) (b g:Nat) (m:Value) (ts:List Tok) (x:ByteArray) (e:Ending) (w':World):Prop:=w.grownBy w' (some b)∧((tx ts=x∧e=.returned (.tuple #[])∧Ps w' b g m ts.tail)∨(¬ tx ts=x∧e=up ts))
theorem ask_new (h:Ps w b g m ts) (x:ByteArray) (hx:x.size≠0):Calls Tryz.prog 94 #[.pointer (some ⟨b,0,none⟩),.slice (some ⟨w.heap.size,0,none⟩) 1 1] (w.alloc (.cells #[.string x] 9)) (Ask1 w b g m ts x):=by
 have hn:=cells_at (heap_new w #[.string x] 9)
 have hbl:=h.lt
 have hg0:=grown_alloc w (.cells #[.string x] 9)
 refine (ask_any (h.alloc (.cells #[.string x] 9)) [x] (by simpa using hx) (some ⟨w.heap.size,0,none⟩) 1 w.heap.size (fun _=>rfl) (by omega) (by simp) (fun j hj=>?_) (by simp)).mono ?_
 ·obtain rfl:j=0:=by simpa using hj
  rw [hn 0]
  rfl
 ·rintro e w' ⟨he,hP,hG⟩
  refine ⟨⟨hG.os.trans hg0.os,hG.tape.trans hg0.tape,hG.output.trans hg0.output,Nat.le_trans hg0.size hG.size,fun k hk hn=>(hG.block k (Nat.lt_of_lt_of_le hk hg0.size) hn).trans (hg0.block k hk (by simp))⟩,?_⟩
  by_cases hq:tx ts=x
  ·have e1:asks [x] ts=(true,ts.tail):=by simp [asks,hq]
   rw [e1] at he hP
   exact Or.inl ⟨hq,he,hP⟩
  ·have e1:asks [x] ts=(false,ts):=by simp [asks,hq]
   rw [e1] at he hP
   exact Or.inr ⟨hq,he⟩
theorem node_any (k:Int) (ka:Option Addr) (kn kc:Nat) (w:World):Calls Tryz.prog 140 #[.int .i64 k,.slice ka kn kc] w fun e w'=>e=.returned (.agg #[.int .i64 k,.string ⟨#[]⟩,.int .i64 0,.slice ka kn kc])∧w.grownBy w' none:=by
 have HG:=hide (grown_alloc w (.cells #[.int .i64 k,.string ⟨#[]⟩,.int .i64 0,.slice ka kn kc] 24))
 have hc:=cells_at (heap_new w #[.int .i64 k,.string ⟨#[]⟩,.int .i64 0,.slice ka kn kc] 24)
 go_enter Tryz.func140,Tryz.ntmps140
 go_wp2_with fail
 have hl:=(Array.getElem?_eq_some_iff.1 (heap_new w #[.int .i64 k,.string ⟨#[]⟩,.int .i64 0,.slice ka kn kc] 24)).1
 generalize w.alloc (.cells #[.int .i64 k,.string ⟨#[]⟩,.int .i64 0,.slice ka kn kc] 24)=X at *
 refine bodyPost_ret (v:=(.agg #[.int .i64 k,.string ⟨#[]⟩,.int .i64 0,.slice ka kn kc])) (by simp [results,Tryz.results140,go_sem,hc,hl]) rfl ?_
 exact ⟨rfl,HG.out⟩
def EndP (w:World) (b g:Nat) (m:Value) (ts:List Tok) (v:Value) (e:Ending) (w':World):Prop:=w.grownBy w' (some b)∧((tx ts=str sSEMI∧e=.returned v∧Ps w' b g m ts.tail)∨(¬ tx ts=str sSEMI∧e=up ts))
theorem ended_any (h:Ps w b g m ts) (hgl:g<w.heap.size) (k v:Int) (tt:ByteArray) (ka:Option Addr) (kn kc:Nat):Calls Tryz.prog 142 #[.pointer (some ⟨b,0,none⟩),.agg #[.int .i64 k,.string tt,.int .i64 v,.slice ka kn kc]] w (EndP w b g m ts (.agg #[.int .i64 k,.string tt,.int .i64 v,.slice ka kn kc])):=by
 have hbl:=h.lt
 have hA:=(h.alloc (.cells #[.int .i64 k,.string tt,.int .i64 v,.slice ka kn kc] 24)).alloc (.cells #[.int .i64 0,.string ⟨#[]⟩,.int .i64 0,.slice none 0 0] 24)
 have HG0:=hide (grown_none (grown_alloc w (.cells #[.int .i64 k,.string tt,.int .i64 v,.slice ka kn kc] 24)) (grown_alloc (w.alloc (.cells #[.int .i64 k,.string tt,.int .i64 v,.slice ka kn kc] 24)) (.cells #[.int .i64 0,.string ⟨#[]⟩,.int .i64 0,.slice none 0 0] 24)))
 have HB0:Hid (((w.alloc (.cells #[.int .i64 k,.string tt,.int .i64 v,.slice ka kn kc] 24)).alloc (.cells #[.int .i64 0,.string ⟨#[]⟩,.int .i64 0,.slice none 0 0] 24)).heap[w.heap.size]?=some (.cells #[.int .i64 k,.string tt,.int .i64 v,.slice ka kn kc] 24 (0,0))):=by
  have h1:=heap_new w #[.int .i64 k,.string tt,.int .i64 v,.slice ka kn kc] 24
  exact (Below.heap_alloc _ _ _ (by simp)).trans h1
 have HB1:Hid (((w.alloc (.cells #[.int .i64 k,.string tt,.int .i64 v,.slice ka kn kc] 24)).alloc (.cells #[.int .i64 0,.string ⟨#[]⟩,.int .i64 0,.slice none 0 0] 24)).heap[w.heap.size+1]?=some (.cells #[.int .i64 0,.string ⟨#[]⟩,.int .i64 0,.slice none 0 0] 24 (0,0))):=by
  have:=heap_new (w.alloc (.cells #[.int .i64 k,.string tt,.int .i64 v,.slice ka kn kc] 24)) #[.int .i64 0,.string ⟨#[]⟩,.int .i64 0,.slice none 0 0] 24
  rw [World.size_alloc] at this
  exact this
 have HK:=hide (ask_new hA (str sSEMI) (by decide))
 have hsz:((w.alloc (.cells #[.int .i64 k,.string tt,.int .i64 v,.slice ka kn kc] 24)).alloc (.cells #[.int .i64 0,.string ⟨#[]⟩,.int .i64 0,.slice none 0 0] 24)).heap.size=w.heap.size+2:=by simp
 rw [hsz] at HK
 have HZ:=hide hsz
 clear h hA hsz
 go_enter Tryz.func142,Tryz.ntmps142
 go_wp2_with fail
 generalize ((w.alloc (.cells #[.int .i64 k,.string tt,.int .i64 v,.slice ka kn kc] 24)).alloc (.cells #[.int .i64 0,.string ⟨#[]⟩,.int .i64 0,.slice none 0 0] 24))=W at *
 go_at_call 94
 refine HK.out.mono ?_
 rintro e w1 ⟨hG,⟨hq,rfl,hP⟩|⟨hq,rfl⟩⟩
 ·have H0:=hide ((hG.block w.heap.size (by rw [HZ.out];omega) (fun e=>by have:=Option.some.inj e;omega)).trans HB0.out)
  have H1:=hide ((hG.block (w.heap.size+1) (by rw [HZ.out];omega) (fun e=>by have:=Option.some.inj e;omega)).trans HB1.out)
  have hc0:=cells_at H0.out
  have hc1:=cells_at H1.out
  have hf1:=frozen_at H1.out
  obtain ⟨m1,m2,m3⟩:=set4 (.int .i64 k) (.string tt) (.int .i64 v) (.slice ka kn kc) H1.out
  have hc7:=cells_at m1
  have hl7:=(Array.getElem?_eq_some_iff.1 m1).1
  have HGG:Hid (w.grownBy w1 (some b)):=⟨hG.os.trans HG0.out.os,hG.tape.trans HG0.out.tape,hG.output.trans HG0.out.output,Nat.le_trans HG0.out.size hG.size,fun k hk hn=>(hG.block k (Nat.lt_of_lt_of_le hk HG0.out.size) hn).trans (HG0.out.block k hk (by simp))⟩
  have HE:=hide (And.intro (m2 b g m ts.tail (by omega) (by omega) hP) (m3 w _ HGG.out (by omega)))
  have HQ:=hide hq
  clear m1 m2 m3 hP hG H0 H1 HB0 HB1 HGG HK HG0 hq
  go_wp2_with fail
  generalize ((((w1.setCell ⟨w.heap.size+1,0,none⟩ (.int .i64 k)).setCell ⟨w.heap.size+1,1,none⟩ (.string tt)).setCell ⟨w.heap.size+1,2,none⟩ (.int .i64 v)).setCell ⟨w.heap.size+1,3,none⟩ (.slice ka kn kc))=X at *
  refine bodyPost_ret (v:=(.agg #[.int .i64 k,.string tt,.int .i64 v,.slice ka kn kc])) (by simp [results,Tryz.results142,go_sem,hc7,hl7]) rfl ?_
  exact ⟨HE.out.2,Or.inl ⟨HQ.out,rfl,HE.out.1⟩⟩
 ·exact ⟨rfl,⟨hG.os.trans HG0.out.os,hG.tape.trans HG0.out.tape,hG.output.trans HG0.out.output,Nat.le_trans HG0.out.size hG.size,fun k hk hn=>(hG.block k (Nat.lt_of_lt_of_le hk HG0.out.size) hn).trans (HG0.out.block k hk (by simp))⟩,Or.inr ⟨hq,rfl⟩⟩
end Go.Proofs.YthcfianhdkolhaaGreatDoor.Y
namespace Go.Proofs.YthcfianhdkolhaaGreatDoor.Y
open Go.RowKit Go.Proofs.YthcfianhdkolhaaGreatDoor.X Go.Proofs.YthcfianhdkolhaaGreatDoor.T Go.Proofs.YthcfianhdkolhaaGreatDoor.S
set_option maxRecDepth 100000
set_option maxHeartbeats 2000000
set_option linter.unusedVariables false
set_option linter.unusedSimpArgs false
variable {w w' : World} {b g : Nat} {m : Value} {ts : List Tok} {t : Tok}
theorem r_round {x:Nd} {ts r:List Tk} (h:hd ts=sLP) (a:R .expr ts.tail (.ok (.nd x) r)) (k:hd r=sRP):R .round ts (.ok (.nd x) r.tail):=by
 obtain ⟨n,e1⟩:=a
 exact ⟨n+1,by simp [P,F,must,h,andN,e1,k,okN]⟩
theorem r_round0 {ts:List Tk} (h:¬ hd ts=sLP):R .round ts (.no ts):=⟨1,by simp [P,F,must,h]⟩
theorem r_round1 {ts r:List Tk} (h:hd ts=sLP) (a:R .expr ts.tail (.no r)):R .round ts (.no r):=by
 obtain ⟨n,e1⟩:=a
 exact ⟨n+1,by simp [P,F,must,h,andN,e1]⟩
theorem r_round2 {x:Nd} {ts r:List Tk} (h:hd ts=sLP) (a:R .expr ts.tail (.ok (.nd x) r)) (k:¬ hd r=sRP):R .round ts (.no r):=by
 obtain ⟨n,e1⟩:=a
 exact ⟨n+1,by simp [P,F,must,h,andN,e1,k]⟩
theorem grown_some {w w':World} {b:Nat} (h:w.grownBy w' none):w.grownBy w' (some b):=⟨h.os,h.tape,h.output,h.size,fun k hk _=>h.block k hk (by simp)⟩
theorem word_sg (c:UInt8) (h:¬ (48≤c.toNat∧c.toNat≤57)):Word [c]:=⟨c,[],rfl,h⟩
theorem inside_any (h:Ps w b g m ts) (hgl:g<w.heap.size) (hT:Two w b m) (xs:List ByteArray) (hx:∀ x,x∈xs→x.size≠0) (a:Option Addr) (c B:Nat) (ha:xs≠[]→a=some ⟨B,0,none⟩) (hB:B≠b) (hl:B<w.heap.size) (hcs:∀ j (hj:j<xs.length),w.cell? ⟨B,j,none⟩=some (.string xs[j])) (hn:xs.length≤100)
  (r0:List Tok) (hr:asks xs ts=(true,r0)) (hF:Fits r0)
  (hE:∀ w1:World,w.grownBy w1 (some b)→Ps w1 b g m r0.tail→Two w1 b m→g<w1.heap.size→Calls Tryz.prog 143 #[.pointer (some ⟨b,0,none⟩)] w1 (PostN .expr w1 b g m r0.tail)):
  Calls Tryz.prog 141 #[.pointer (some ⟨b,0,none⟩),.slice a xs.length c] w (PostN .round w b g m r0):=by
 have hbl:=h.lt
 have hg0:=grown_alloc w (.cells #[.int .i64 0,.string ⟨#[]⟩,.int .i64 0,.slice none 0 0] 24)
 have hK:=ask_any (h.alloc (.cells #[.int .i64 0,.string ⟨#[]⟩,.int .i64 0,.slice none 0 0] 24)) xs hx a c B ha hB (Nat.lt_of_lt_of_le hl hg0.size) (fun j hj=>by
  rw [World.cell?_of_block (a:=⟨B,j,none⟩) (hg0.block B hl (by simp))]
  exact hcs j hj) hn
 rw [hr] at hK
 have HK:=hide hK
 have HG0:=hide (grown_some (b:=b) hg0)
 have HB0:=hide (heap_new w #[.int .i64 0,.string ⟨#[]⟩,.int .i64 0,.slice none 0 0] 24)
 have HT:=hide hT
 have HE:=hide hE
 have HF:=hide hF
 clear h hK hg0 hT hE hF hx ha hcs hr
 have hz0:(w.alloc (.cells #[.int .i64 0,.string ⟨#[]⟩,.int .i64 0,.slice none 0 0] 24)).heap.size=w.heap.size+1:=by simp
 have HZ0:=hide hz0
 clear hz0
 go_enter Tryz.func141,Tryz.ntmps141
 go_wp2_with fail
 generalize w.alloc (.cells #[.int .i64 0,.string ⟨#[]⟩,.int .i64 0,.slice none 0 0] 24)=W0 at *
 go_at_call 94
 refine HK.out.mono ?_
 rintro e w1 ⟨he,hP1,hG1⟩
 obtain rfl:e=.returned (.tuple #[]):=he
 have HP1:=hide hP1
 have HG1:=hide (grown_trans HG0.out hG1)
 have HB1:=hide ((hG1.block w.heap.size (by rw [HZ0.out];omega) (fun e=>by have:=Option.some.inj e;omega)).trans HB0.out)
 have hs1:=hG1.size
 clear hP1 hG1 HG0 HB0 HK
 have HA1:=hide (ask_new HP1.out (str sLP) (by decide))
 go_wp2_with fail
 go_at_call 94
 refine HA1.out.mono ?_
 rintro e w2 ⟨hG2,⟨hq,rfl,hP2⟩|⟨hq,rfl⟩⟩
 ·have HQ:=hide ((tx_hd HF.out sLP (word_sg 40 (by decide))).1 hq)
  have HP2:=hide hP2
  have HG2:=hide (grown_trans HG1.out hG2)
  have hs1':w.heap.size<w1.heap.size:=by have:=HZ0.out;omega
  have HB2:=hide ((hG2.block w.heap.size hs1' (fun e=>by have:=Option.some.inj e;omega)).trans HB1.out)
  have HS2:=hide (Nat.lt_of_lt_of_le hs1' hG2.size)
  clear hq hP2 hG2 HA1 hs1 hs1'
  have HX:=hide (HE.out w2 HG2.out HP2.out (HT.out.kept HG2.out) (Nat.lt_of_lt_of_le hgl HG2.out.size))
  go_wp2_with fail
  go_at_call 143
  refine HX.out.mono ?_
  rintro e w3 ⟨hG3,r,hsu,⟨n,vv,hlt,hR,rfl,hN,hP3⟩|⟨hR,rfl⟩⟩
  ·obtain ⟨k,tt,v,ka,kn,kc,rfl⟩:=hN.form
   have HR:=hide hR
   have HN:=hide hN
   have HP3:=hide hP3
   have HG3:=hide (grown_trans HG2.out hG3)
   have HB3:=hide ((hG3.block w.heap.size HS2.out (fun e=>by have:=Option.some.inj e;omega)).trans HB2.out)
   have HS3:=hide (Nat.lt_of_lt_of_le HS2.out hG3.size)
   have HSu:=hide hsu
   clear hR hN hP3 hG3 hsu HX
   have HA3:=hide (ask_new (HP3.out.alloc (.cells #[.int .i64 k,.string tt,.int .i64 v,.slice ka kn kc] 24)) (str sRP) (by decide))
   have hz3:(w3.alloc (.cells #[.int .i64 k,.string tt,.int .i64 v,.slice ka kn kc] 24)).heap.size=w3.heap.size+1:=by simp
   rw [hz3] at HA3
   have HN3:=hide (heap_new w3 #[.int .i64 k,.string tt,.int .i64 v,.slice ka kn kc] 24)
   have HG4:=hide (grown_trans HG3.out (grown_some (grown_alloc w3 (.cells #[.int .i64 k,.string tt,.int .i64 v,.slice ka kn kc] 24))))
   have HO3:=hide ((Below.heap_alloc w3 (.cells #[.int .i64 k,.string tt,.int .i64 v,.slice ka kn kc] 24) w.heap.size HS3.out).trans HB3.out)
   have HM3:Hid (∀ q,q<w3.heap.size→(w3.alloc (.cells #[.int .i64 k,.string tt,.int .i64 v,.slice ka kn kc] 24)).heap[q]?=w3.heap[q]?):=fun q hq=>Below.heap_alloc w3 (.cells #[.int .i64 k,.string tt,.int .i64 v,.slice ka kn kc] 24) q hq
   have HZ3:=hide hz3
   clear hz3
   go_wp2_with fail
   generalize w3.alloc (.cells #[.int .i64 k,.string tt,.int .i64 v,.slice ka kn kc] 24)=W3 at *
   go_at_call 94
   refine HA3.out.mono ?_
   rintro e w4 ⟨hG5,⟨hq,rfl,hP4⟩|⟨hq,rfl⟩⟩
   ·have HQ2:=hide ((tx_hd ((HF.out.suf (List.tail_suffix _)).suf HSu.out) sRP (word_sg 41 (by decide))).1 hq)
    have h3s:=HS3.out
    have H5:=hide ((hG5.block w3.heap.size (by rw [HZ3.out];omega) (fun e=>by have:=Option.some.inj e;omega)).trans HN3.out)
    have H6:=hide ((hG5.block w.heap.size (by rw [HZ3.out];omega) (fun e=>by have:=Option.some.inj e;omega)).trans HO3.out)
    have hc5:=cells_at H5.out
    have hc6:=cells_at H6.out
    have hf6:=frozen_at H6.out
    obtain ⟨m1,m2,m3⟩:=set4 (.int .i64 k) (.string tt) (.int .i64 v) (.slice ka kn kc) H6.out
    have hc7:=cells_at m1
    have hl7:=(Array.getElem?_eq_some_iff.1 m1).1
    have HEnd:=hide (And.intro (m2 b g m r.tail (by omega) (by omega) hP4) (m3 w _ (grown_trans HG4.out hG5) (Nat.le_refl _)))
    have HNd:Hid (NdV ((((w4.setCell ⟨w.heap.size,0,none⟩ (.int .i64 k)).setCell ⟨w.heap.size,1,none⟩ (.string tt)).setCell ⟨w.heap.size,2,none⟩ (.int .i64 v)).setCell ⟨w.heap.size,3,none⟩ (.slice ka kn kc)) (fun k=>w.heap.size≤k) n (.agg #[.int .i64 k,.string tt,.int .i64 v,.slice ka kn kc])):=by
     refine HN.out.move (fun q hq hlt=>⟨?_,?_⟩)
     ·have h2s:=HS2.out
      have hne:q≠w.heap.size:=by omega
      have hnb:q≠b:=by omega
      rw [heap_setCell_other _ _ q _ hne,heap_setCell_other _ _ q _ hne,heap_setCell_other _ _ q _ hne,heap_setCell_other _ _ q _ hne]
      exact (hG5.block q (by rw [HZ3.out];omega) (fun e=>hnb (Option.some.inj e))).trans (HM3.out q hlt)
     ·have h2s:=HS2.out
      omega
    clear m1 m2 m3 hP4 hG5 H5 H6 HG4 HO3 HM3 HN3 HA3 HN HB3 HB2 HB1 hq
    go_wp2_with fail
    generalize ((((w4.setCell ⟨w.heap.size,0,none⟩ (.int .i64 k)).setCell ⟨w.heap.size,1,none⟩ (.string tt)).setCell ⟨w.heap.size,2,none⟩ (.int .i64 v)).setCell ⟨w.heap.size,3,none⟩ (.slice ka kn kc))=X at *
    refine bodyPost_ret (v:=(.agg #[.int .i64 k,.string tt,.int .i64 v,.slice ka kn kc])) (by simp [results,Tryz.results141,go_sem,hc7,hl7]) rfl ?_
    refine ⟨HEnd.out.2,r.tail,(List.tail_suffix _).trans (HSu.out.trans (List.tail_suffix _)),Or.inl ⟨n,_,?_,?_,rfl,HNd.out,HEnd.out.1⟩⟩
    ·have l1:=hd_lt HQ.out (by decide)
     have l2:=HSu.out.length_le
     have l3:=(List.tail_suffix r).length_le
     omega
    rw [tk_tail]
    exact r_round HQ.out (by rw [← tk_tail];exact HR.out) HQ2.out
   ·refine ⟨rfl,grown_trans HG4.out hG5,r,HSu.out.trans (List.tail_suffix _),Or.inr ⟨?_,rfl⟩⟩
    have hq':¬ hd (tk r)=sRP:=fun e=>hq ((tx_hd ((HF.out.suf (List.tail_suffix _)).suf HSu.out) sRP (word_sg 41 (by decide))).2 e)
    exact r_round2 HQ.out (by rw [← tk_tail];exact HR.out) hq'
  ·exact ⟨rfl,grown_trans HG2.out hG3,r,hsu.trans (List.tail_suffix _),Or.inr ⟨r_round1 HQ.out (by rw [← tk_tail];exact hR),rfl⟩⟩
 ·exact ⟨rfl,grown_trans HG1.out hG2,r0,List.suffix_refl _,Or.inr ⟨r_round0 (fun e=>hq ((tx_hd HF.out sLP (word_sg 40 (by decide))).2 e)),rfl⟩⟩
end Go.Proofs.YthcfianhdkolhaaGreatDoor.Y
