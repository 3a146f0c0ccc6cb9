/- PbZ -/
import Derived.Test.YthcfianhdkolhaaGreatDoorPbY
import Derived.Test.YthcfianhdkolhaaGreatDoorPrO
namespace Go.Proofs.YthcfianhdkolhaaGreatDoor.Y
open Go.RowKit Go.Proofs.YthcfianhdkolhaaGreatDoor.X Go.Proofs.YthcfianhdkolhaaGreatDoor.T Go.Proofs.YthcfianhdkolhaaGreatDoor.S
set_option maxRecDepth 100000
set_option maxHeartbeats 2000000
set_option linter.unusedVariables false
set_option linter.unusedSimpArgs false
variable {w w' w0 : World} {b g : Nat} {m : Value} {ts : List Tok} {t : Tok}
abbrev zNode:Value:=.agg #[.int .i64 0,.string ⟨#[]⟩,.int .i64 0,.slice none 0 0]
def atOf (nb:Int):List Tok→Int
 | []=>nb
 | t::_=>t.at_
def PostA (w:World) (ts:List Tok) (nb:Int) (e:Ending) (w':World):Prop:=w.grownBy w' none ∧
 ((∃ n v,R (.unitL []) (tk ts) (.ok (.nd n) [])∧e=.returned (.tuple #[v,.agg #[.int .i64 0,.int .i64 0]])∧NdV w' (fun k=>w.heap.size≤k) n v) ∨
  (∃ r,r <:+ ts∧R (.unitL []) (tk ts) (.no (tk r))∧e=.returned (.tuple #[zNode,.agg #[.int .i64 2,.int .i64 (atOf nb r)]])))
theorem results_cell_cell {P:Program} {fn:Func} {t u:Tmp} {ty ty2:TypeId} {q q2:Addr} {v v2:Value} (h:fn.results=#[.cell t ty,.cell u ty2]) (tmps:Array Value) (ht:tmps.getD t undef=.pointer (some q)) (hu:tmps.getD u undef=.pointer (some q2)) (w:World) (hr:(loadVar ty q).run P w=.ok v w) (hr2:(loadVar ty2 q2).run P w=.ok v2 w):(results fn tmps).run P w=.ok (.tuple #[v,v2]) w:=by
 have ht':tmps[t]?.getD undef=.pointer (some q):=by simpa using ht
 have hu':tmps[u]?.getD undef=.pointer (some q2):=by simpa using hu
 simp [results,h,asAddr,ht',hu',hr,hr2]
theorem load24 {w:World} {q:Nat} {k v:Int} {x:ByteArray} {a:Option Addr} {n c:Nat} (h:w.heap[q]?=some (.cells #[.int .i64 k,.string x,.int .i64 v,.slice a n c] 24 (0,0))):(loadVar 24 ⟨q,0,none⟩).run Tryz.prog w=.ok (.agg #[.int .i64 k,.string x,.int .i64 v,.slice a n c]) w:=by
 have hc:=cells_at h
 simp [loadVar,go_sem,hc]
theorem load27 {w:World} {q:Nat} {k v:Int} (h:w.heap[q]?=some (.cells #[.int .i64 k,.int .i64 v] 27 (0,0))):(loadVar 27 ⟨q,0,none⟩).run Tryz.prog w=.ok (.agg #[.int .i64 k,.int .i64 v]) w:=by
 have hc:=cells_at h
 simp [loadVar,go_sem,hc]
theorem leaves_cc {tmps:Array Value} {R:Ending→World→Prop} {w:World} {q q2:Addr} {v v2:Value} (ht:tmps.getD 4 undef=.pointer (some q)) (hu:tmps.getD 5 undef=.pointer (some q2)) (hr:(loadVar 24 q).run Tryz.prog w=.ok v w) (hr2:(loadVar 27 q2).run Tryz.prog w=.ok v2 w) (h:R (.returned (.tuple #[v,v2])) w):Leaves Tryz.prog Tryz.f11 tmps R [] .returning w:=
 ⟨_,results_cell_cell Tryz.results11 tmps ht hu w hr hr2,h⟩
theorem hand_blocks {W:World} {q qn:Nat} {y0 y1:Value} {a:Int} {cs:Array Value} {T:TypeId} (hq:W.heap[q]?=some (.cells #[y0,y1] 27 (0,0))) (hne:qn≠q) {zs:Array Value} (hn:W.heap[qn]?=some (.cells zs 24 (0,0))):
  (((W.setCell ⟨q,0,none⟩ (.int .i64 2)).setCell ⟨q,1,none⟩ (.int .i64 a)).alloc (.cells cs T)).heap[q]?=some (.cells #[.int .i64 2,.int .i64 a] 27 (0,0))∧(((W.setCell ⟨q,0,none⟩ (.int .i64 2)).setCell ⟨q,1,none⟩ (.int .i64 a)).alloc (.cells cs T)).heap[qn]?=some (.cells zs 24 (0,0))∧W.grownBy (((W.setCell ⟨q,0,none⟩ (.int .i64 2)).setCell ⟨q,1,none⟩ (.int .i64 a)).alloc (.cells cs T)) (some q):=by
 have k1:(W.setCell ⟨q,0,none⟩ (.int .i64 2)).heap[q]?=some (.cells #[.int .i64 2,y1] 27 (0,0)):=(heap_setCell_same W q 0 _ 27 _ hq).trans rfl
 have k2:((W.setCell ⟨q,0,none⟩ (.int .i64 2)).setCell ⟨q,1,none⟩ (.int .i64 a)).heap[q]?=some (.cells #[.int .i64 2,.int .i64 a] 27 (0,0)):=(heap_setCell_same _ q 1 _ 27 _ k1).trans rfl
 have l1:=(Array.getElem?_eq_some_iff.1 hq).1
 have l2:=(Array.getElem?_eq_some_iff.1 hn).1
 refine ⟨(Below.heap_alloc _ _ _ (by simpa using l1)).trans k2,?_,⟨rfl,rfl,rfl,by simp,fun k hk hn=>?_⟩⟩
 ·rw [Below.heap_alloc _ _ _ (by simpa using l2),heap_setCell_other _ _ _ _ hne,heap_setCell_other _ _ _ _ hne]
  exact hn
 ·have hne':k≠q:=fun e=>hn (by rw [e])
  rw [Below.heap_alloc _ _ _ (by simpa using hk),heap_setCell_other _ _ _ _ hne',heap_setCell_other _ _ _ _ hne']
theorem parsed_any (hGl:T.Gl w) (a:Option Addr) (c g o:Nat) (hlc:ts.length≤c) (hc:c≤9223372036854775807) (ha:ts≠[]→a=some ⟨g,o,none⟩) (hat:TokAt w g o ts) (hg:g<w.heap.size) (hF:Fits ts) (hlen:ts.length≤4000) (nb:Int):
  Calls Tryz.prog 11 #[.slice a ts.length c,.int .i64 nb] w (PostA w ts nb):=by
 have hmf:∀ (fn:Fn) (first cap:Array Value) (w:World),(Instr.makeFunc fn first cap).run Tryz.prog w=.ok (.func fn first cap) w:=fun _ _ _ _=>rfl
 have hmm:=@run_makeMap Tryz.prog
 have hw4:4<w.heap.size:=hGl.lt.2
 obtain ⟨W3,hW3⟩:∃ W3,W3=((w.alloc (.cells #[.int .i64 nb] 3)).alloc (.cells #[.int .i64 0,.string ⟨#[]⟩,.int .i64 0,.slice none 0 0] 24)).alloc (.cells #[.int .i64 0,.int .i64 0] 27):=⟨_,rfl⟩
 have hz3:W3.heap.size=w.heap.size+3:=by rw [hW3];simp
 have g3:w.grownBy W3 none:=by rw [hW3];exact grown_none (grown_none (grown_alloc w _) (grown_alloc _ _)) (grown_alloc _ _)
 have b0:W3.heap[w.heap.size]?=some (.cells #[.int .i64 nb] 3 (0,0)):=by
  rw [hW3,Below.heap_alloc _ _ _ (by simp;omega),Below.heap_alloc _ _ _ (by simp)]
  exact heap_new w _ _
 have b1:W3.heap[w.heap.size+1]?=some (.cells #[.int .i64 0,.string ⟨#[]⟩,.int .i64 0,.slice none 0 0] 24 (0,0)):=by
  have:=heap_new (w.alloc (.cells #[.int .i64 nb] 3)) #[.int .i64 0,.string ⟨#[]⟩,.int .i64 0,.slice none 0 0] 24
  rw [World.size_alloc] at this
  rw [hW3,Below.heap_alloc _ _ _ (by simp)]
  exact this
 have b2:W3.heap[w.heap.size+2]?=some (.cells #[.int .i64 0,.int .i64 0] 27 (0,0)):=by
  have:=heap_new ((w.alloc (.cells #[.int .i64 nb] 3)).alloc (.cells #[.int .i64 0,.string ⟨#[]⟩,.int .i64 0,.slice none 0 0] 24)) #[.int .i64 0,.int .i64 0] 27
  rw [World.size_alloc,World.size_alloc] at this
  rw [hW3]
  exact this
 have M0:=Mp.made W3
 obtain ⟨W5,u1,m1,g5⟩:=M0.put (by omega) ⟨#[105,110,116]⟩ (by decide) Rw_one
 have M1:=m1 (fun s zd=>if s=str sINT then D0 1 else zd) (fun s zd=>rfl)
 obtain ⟨W6,u2,m2,g6⟩:=M1.put (by omega) ⟨#[108,111,110,103]⟩ (by decide) Rw_two
 have M2:Mp W6 W3.heap.size 2 A2:=m2 A2 (fun s zd=>rfl)
 have g36:W3.grownBy W6 none:=⟨g6.os.trans (g5.os.trans rfl),g6.tape.trans (g5.tape.trans rfl),g6.output.trans (g5.output.trans rfl),Nat.le_trans (by simp) (Nat.le_trans g5.size g6.size),fun k hk _=>by
  have hne:some k≠some W3.heap.size:=fun e=>by have:=Option.some.inj e;omega
  have hk4:k<(W3.alloc (.map #[] 0)).heap.size:=by simp;omega
  exact (g6.block k (Nat.lt_of_lt_of_le hk4 g5.size) hne).trans ((g5.block k hk4 hne).trans (Below.heap_alloc _ _ _ hk))⟩
 have h36:=g36.size
 have hmb:W3.heap.size<W6.heap.size:=Nat.lt_of_lt_of_le (by simp) (Nat.le_trans g5.size g6.size)
 have HT:Hid (Two (W6.alloc (.cells #[.slice a ts.length c,.map (some W3.heap.size)] 55)) W6.heap.size (.map (some W3.heap.size))):=(M2.two (b:=W6.heap.size) (by omega)).kept (grown_some (grown_alloc W6 _))
 have g07:w.grownBy (W6.alloc (.cells #[.slice a ts.length c,.map (some W3.heap.size)] 55)) none:=grown_none (grown_none g3 g36) (grown_alloc W6 _)
 have hPs:Ps (W6.alloc (.cells #[.slice a ts.length c,.map (some W3.heap.size)] 55)) W6.heap.size g (.map (some W3.heap.size)) ts:=⟨by omega,a,o,c,heap_new W6 _ _,hlc,hc,ha,hat.same (g07.block g hg (by simp))⟩
 have hb5:4<W6.heap.size:=by omega
 have HU:=hide (unit_post hPs HT.out (Gl_kept (b:=W6.heap.size) hGl hb5 (grown_some g07)) hb5 (Nat.lt_of_lt_of_le hg g07.size) hF hlen)
 have HK:Hid (∀ w8,(W6.alloc (.cells #[.slice a ts.length c,.map (some W3.heap.size)] 55)).grownBy w8 (some W6.heap.size)→(∀ k,k<W3.heap.size→w8.heap[k]?=W3.heap[k]?)∧w.grownBy w8 none):=fun w8 h8=>by
  have e:∀ k,k<W6.heap.size→w8.heap[k]?=W6.heap[k]?:=fun k hk=>(h8.block k (by simp;omega) (fun e=>by have:=Option.some.inj e;omega)).trans (Below.heap_alloc _ _ _ hk)
  refine ⟨fun k hk=>(e k (by omega)).trans (g36.block k hk (by simp)),⟨h8.os.trans g07.os,h8.tape.trans g07.tape,h8.output.trans g07.output,Nat.le_trans g07.size h8.size,fun k hk _=>?_⟩⟩
  have hk6:k<W6.heap.size:=by have:=g3.size;omega
  exact (e k hk6).trans ((g36.block k (by have:=g3.size;omega) (by simp)).trans (g3.block k hk (by simp)))
 have HB0:=hide b0
 have HB1:=hide b1
 have HB2:=hide b2
 have HZ3:=hide hz3
 have HG6:Hid (w.heap.size≤W6.heap.size):=by show _≤_;omega
 rw [hz3] at u1 u2 HU HK
 clear M0 m1 g5 M1 m2 g6 M2 g36 HT g07 hPs hb5 b0 b1 b2 hat hF ha hGl g3
 have hu1:∀ W,W=W3.alloc (.map #[] 0)→(Instr.mapUpdate 53 (.map (some (w.heap.size+3))) (.string ⟨#[105,110,116]⟩) (.agg #[.int .i64 9,.int .i64 30])).run Tryz.prog W=.ok () W5:=fun W e=>by rw [e];exact u1
 have hu1':=hu1 ((((w.alloc (.cells #[.int .i64 nb] 3)).alloc (.cells #[.int .i64 0,.string ⟨#[]⟩,.int .i64 0,.slice none 0 0] 24)).alloc (.cells #[.int .i64 0,.int .i64 0] 27)).alloc (.map #[] 0)) (by rw [hW3])
 clear hu1 u1
 clear hW3
 go_enter_defers Tryz.func11,Tryz.ntmps11
 go_wp2_with fail
 go_at_call 20
 refine HU.out.mono ?_
 rintro e w8 ⟨hG8,r,hsu,⟨n,v,hR,rfl,hN⟩|⟨hR,rfl⟩⟩
 ·obtain ⟨k8,G8⟩:=HK.out w8 hG8
  obtain ⟨kk,x,num,ka,kn,kc,rfl⟩:=hN.form
  have hz:=HZ3.out
  have c1:=(k8 (w.heap.size+1) (by omega)).trans HB1.out
  have c2:=(k8 (w.heap.size+2) (by omega)).trans HB2.out
  obtain ⟨s1,_,_⟩:=Y.set4 (.int .i64 kk) (.string x) (.int .i64 num) (.slice ka kn kc) c1
  have hne21:w.heap.size+2≠w.heap.size+1:=by omega
  have hne12:w.heap.size+1≠w.heap.size+2:=by omega
  have s2:((((w8.setCell ⟨w.heap.size+1,0,none⟩ (.int .i64 kk)).setCell ⟨w.heap.size+1,1,none⟩ (.string x)).setCell ⟨w.heap.size+1,2,none⟩ (.int .i64 num)).setCell ⟨w.heap.size+1,3,none⟩ (.slice ka kn kc)).heap[w.heap.size+2]?=some (.cells #[.int .i64 0,.int .i64 0] 27 (0,0)):=by
   rw [heap_setCell_other _ _ _ _ hne21,heap_setCell_other _ _ _ _ hne21,heap_setCell_other _ _ _ _ hne21,heap_setCell_other _ _ _ _ hne21]
   exact c2
  have hw1:=cells_at c1
  have hf1:=frozen_at c1
  have hw2:=cells_at s2
  have hf2:=frozen_at s2
  have HS1:=hide s1
  have HS2:=hide s2
  have HG8:=hide G8
  have HR:=hide hR
  have HN:=hide hN
  have HF1:Hid (((((((w8.setCell ⟨w.heap.size+1,0,none⟩ (.int .i64 kk)).setCell ⟨w.heap.size+1,1,none⟩ (.string x)).setCell ⟨w.heap.size+1,2,none⟩ (.int .i64 num)).setCell ⟨w.heap.size+1,3,none⟩ (.slice ka kn kc)).setCell ⟨w.heap.size+2,0,none⟩ (.int .i64 0)).setCell ⟨w.heap.size+2,1,none⟩ (.int .i64 0)).heap[w.heap.size+1]?=some (.cells #[.int .i64 kk,.string x,.int .i64 num,.slice ka kn kc] 24 (0,0))):=by
   show _=_
   rw [heap_setCell_other _ _ _ _ hne12,heap_setCell_other _ _ _ _ hne12]
   exact s1
  have HF2:Hid (((((((w8.setCell ⟨w.heap.size+1,0,none⟩ (.int .i64 kk)).setCell ⟨w.heap.size+1,1,none⟩ (.string x)).setCell ⟨w.heap.size+1,2,none⟩ (.int .i64 num)).setCell ⟨w.heap.size+1,3,none⟩ (.slice ka kn kc)).setCell ⟨w.heap.size+2,0,none⟩ (.int .i64 0)).setCell ⟨w.heap.size+2,1,none⟩ (.int .i64 0)).heap[w.heap.size+2]?=some (.cells #[.int .i64 0,.int .i64 0] 27 (0,0))):=by
   have t1:=heap_setCell_same ((((w8.setCell ⟨w.heap.size+1,0,none⟩ (.int .i64 kk)).setCell ⟨w.heap.size+1,1,none⟩ (.string x)).setCell ⟨w.heap.size+1,2,none⟩ (.int .i64 num)).setCell ⟨w.heap.size+1,3,none⟩ (.slice ka kn kc)) (w.heap.size+2) 0 _ 27 (.int .i64 0) s2
   exact (heap_setCell_same _ (w.heap.size+2) 1 _ 27 (.int .i64 0) t1).trans rfl
  have HGF:Hid (w.grownBy ((((((w8.setCell ⟨w.heap.size+1,0,none⟩ (.int .i64 kk)).setCell ⟨w.heap.size+1,1,none⟩ (.string x)).setCell ⟨w.heap.size+1,2,none⟩ (.int .i64 num)).setCell ⟨w.heap.size+1,3,none⟩ (.slice ka kn kc)).setCell ⟨w.heap.size+2,0,none⟩ (.int .i64 0)).setCell ⟨w.heap.size+2,1,none⟩ (.int .i64 0)) none):=grown_set (grown_set (grown_set (grown_set (grown_set (grown_set G8 (by omega)) (by omega)) (by omega)) (by omega)) (by omega)) (by omega)
  have HNF:Hid (NdV ((((((w8.setCell ⟨w.heap.size+1,0,none⟩ (.int .i64 kk)).setCell ⟨w.heap.size+1,1,none⟩ (.string x)).setCell ⟨w.heap.size+1,2,none⟩ (.int .i64 num)).setCell ⟨w.heap.size+1,3,none⟩ (.slice ka kn kc)).setCell ⟨w.heap.size+2,0,none⟩ (.int .i64 0)).setCell ⟨w.heap.size+2,1,none⟩ (.int .i64 0)) (fun k=>w.heap.size≤k) n (.agg #[.int .i64 kk,.string x,.int .i64 num,.slice ka kn kc])):=by
   refine hN.move (fun k hk hl=>⟨?_,?_⟩)
   ·have hk':W6.heap.size+1≤k:=by simpa using hk
    have h6:=HG6.out
    have hk1:k≠w.heap.size+1:=by omega
    have hk2:k≠w.heap.size+2:=by omega
    rw [heap_setCell_other _ _ _ _ hk2,heap_setCell_other _ _ _ _ hk2,heap_setCell_other _ _ _ _ hk1,heap_setCell_other _ _ _ _ hk1,heap_setCell_other _ _ _ _ hk1,heap_setCell_other _ _ _ _ hk1]
   ·have hk':W6.heap.size+1≤k:=by simpa using hk
    have h6:=HG6.out
    show w.heap.size≤k
    omega
  clear k8 G8 c1 c2 s1 s2 hR hN hG8 hsu
  go_wp2_with fail
  refine leaves_cons (f:=19) (args:=#[.pointer (some ⟨w.heap.size+2,0,none⟩),.pointer (some ⟨w.heap.size,0,none⟩)]) (by simp) (by simp [go_sem]) ?_
  refine (hand_idle _ _ _).mono ?_
  rintro e u' w5 ⟨rfl,rfl,rfl⟩
  refine leaves_cc (q:=⟨w.heap.size+1,0,none⟩) (q2:=⟨w.heap.size+2,0,none⟩) rfl rfl (load24 HF1.out) (load27 HF2.out) ?_
  exact ⟨HGF.out,Or.inl ⟨n,_,HR.out,rfl,HNF.out⟩⟩
 ·obtain ⟨k8,G8⟩:=HK.out w8 hG8
  have hz:=HZ3.out
  have c0:=(k8 w.heap.size (by omega)).trans HB0.out
  have c1:=(k8 (w.heap.size+1) (by omega)).trans HB1.out
  have c2:=(k8 (w.heap.size+2) (by omega)).trans HB2.out
  refine leaves_cons (f:=19) (args:=#[.pointer (some ⟨w.heap.size+2,0,none⟩),.pointer (some ⟨w.heap.size,0,none⟩)]) (by simp) (by simp [go_sem]) ?_
  cases r with
  | nil=>
   refine (hand_short (w.heap.size+2) w.heap.size nb _ _ [] w8 c2 c0).mono ?_
   rintro e u' w9 ⟨rfl,rfl,rfl⟩
   obtain ⟨d1,d2,d3⟩:=hand_blocks (a:=nb) (cs:=#[]) (T:=49) c2 (show w.heap.size+1≠w.heap.size+2 by omega) c1
   refine leaves_cc (q:=⟨w.heap.size+1,0,none⟩) (q2:=⟨w.heap.size+2,0,none⟩) rfl rfl (load24 d2) (load27 d1) ?_
   exact ⟨⟨d3.os.trans G8.os,d3.tape.trans G8.tape,d3.output.trans G8.output,Nat.le_trans G8.size d3.size,fun k hk _=>(d3.block k (Nat.lt_of_lt_of_le hk G8.size) (fun e=>by have:=Option.some.inj e;omega)).trans (G8.block k hk (by simp))⟩,Or.inr ⟨[],hsu,hR,rfl⟩⟩
  | cons t r=>
   refine (hand_wrong (w.heap.size+2) w.heap.size t.kind t.at_ t.text _ _ [] w8 c2).mono ?_
   rintro e u' w9 ⟨rfl,rfl,rfl⟩
   obtain ⟨d1,d2,d3⟩:=hand_blocks (a:=t.at_) (cs:=#[.int .i64 t.kind,.string t.text,.int .i64 t.at_]) (T:=47) c2 (show w.heap.size+1≠w.heap.size+2 by omega) c1
   refine leaves_cc (q:=⟨w.heap.size+1,0,none⟩) (q2:=⟨w.heap.size+2,0,none⟩) rfl rfl (load24 d2) (load27 d1) ?_
   exact ⟨⟨d3.os.trans G8.os,d3.tape.trans G8.tape,d3.output.trans G8.output,Nat.le_trans G8.size d3.size,fun k hk _=>(d3.block k (Nat.lt_of_lt_of_le hk G8.size) (fun e=>by have:=Option.some.inj e;omega)).trans (G8.block k hk (by simp))⟩,Or.inr ⟨t::r,hsu,hR,rfl⟩⟩
end Go.Proofs.YthcfianhdkolhaaGreatDoor.Y
