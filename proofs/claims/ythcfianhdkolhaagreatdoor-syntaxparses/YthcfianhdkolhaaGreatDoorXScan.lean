/- XScan -/
import Derived.Test.YthcfianhdkolhaaGreatDoorXNum
import Derived.Deep.AppendLies
import Derived.Test.YthcfianhdkolhaaGreatDoorXTd
namespace Go.Proofs.YthcfianhdkolhaaGreatDoor.X
open Go.RowKit
set_option maxRecDepth 100000
set_option maxHeartbeats 2000000
set_option linter.unusedVariables false
set_option linter.unusedSimpArgs false
def rowEndN (t:ByteArray):Nat→Nat→Nat
 | 0,to=>to
 | n+1,to=>if insB (byteAt t to) then rowEndN t n (to+1) else to
def rowEnd (t:ByteArray) (i:Nat):Nat:=rowEndN t (t.size - i) i
theorem rowEndN_le (t:ByteArray):∀ n to,to≤rowEndN t n to∧rowEndN t n to≤to+n
 | 0,to=>⟨Nat.le_refl _,Nat.le_refl _⟩
 | n+1,to=>by
  unfold rowEndN
  have:=rowEndN_le t n (to+1)
  split<;>omega
structure Look where
 code:Int
 kind:Int
 text:ByteArray
 next:Nat
def look (t:ByteArray) (i:Nat):Look:=
 if letB (byteAt t i) then ⟨if 16<rowEnd t i - i then 1 else 0,1,t.extract i (rowEnd t i),rowEnd t i⟩
 else if digB (byteAt t i) then ⟨rowCode (t.extract i (rowEnd t i)),if isL (t.extract i (rowEnd t i)) then 3 else 2,rowText (t.extract i (rowEnd t i)),rowEnd t i⟩
 else ⟨if (signOf (t.extract i t.size)).size=0 then 2 else 0,4,signOf (t.extract i t.size),i+(signOf (t.extract i t.size)).size⟩
def blank (note:Bool) (c:Nat):Bool:=note || decide (c=32) || decide (c=10) || decide (c=35)
def note2 (note:Bool) (c:Nat):Bool:=(note || decide (c=35)) && !decide (c=10)
def scanN (t:ByteArray):Nat→Nat→Bool→List Tok→List Tok × Int × Nat
 | 0,_,_,l=>(l,0,0)
 | n+1,i,note,l=>
  if i<t.size then
   if blank note (byteAt t i) then scanN t n (i+1) (note2 note (byteAt t i)) l
   else if (look t i).code=0 then scanN t n (look t i).next note (l++[⟨(look t i).kind,(look t i).text,i⟩]) else ([],(look t i).code,i)
  else (l,0,0)
theorem scanN_succ (t:ByteArray) (n i:Nat) (note:Bool) (l:List Tok):scanN t (n+1) i note l=if i<t.size then if blank note (byteAt t i) then scanN t n (i+1) (note2 note (byteAt t i)) l else if (look t i).code=0 then scanN t n (look t i).next note (l++[⟨(look t i).kind,(look t i).text,i⟩]) else ([],(look t i).code,i) else (l,0,0):=rfl
def scan (t:ByteArray):List Tok × Int × Nat:=if 4000<t.size then ([],1,0) else scanN t t.size 0 false []
theorem let_ins {c:Nat} (h:letB c=true):insB c=true:=by unfold insB;rw [h];rfl
theorem dig_ins {c:Nat} (h:digB c=true):insB c=true:=by unfold insB;rw [h];simp
theorem rowEnd_gt {t:ByteArray} {i:Nat} (hi:i<t.size) (h:insB (byteAt t i)=true):i<rowEnd t i:=by
 unfold rowEnd
 obtain ⟨n,hn⟩:∃ n,t.size - i=n+1:=⟨t.size - i - 1,by omega⟩
 rw [hn]
 unfold rowEndN
 rw [if_pos h]
 have:=(rowEndN_le t n (i+1)).1
 omega
theorem look_next {t:ByteArray} {i:Nat} (hi:i<t.size) (h:(look t i).code=0):i<(look t i).next:=by
 unfold look at *
 split
 ·exact rowEnd_gt hi (let_ins (by assumption))
 ·rename_i h1
  rw [if_neg h1] at h
  split
  ·exact rowEnd_gt hi (dig_ins (by assumption))
  ·rename_i h2
   rw [if_neg h2] at h
   simp only at h ⊢
   split at h
   ·cases h
   ·omega
theorem signFrom_le (s:ByteArray):∀ n j,(signFrom s j n).size≤s.size
 | 0,_=>Nat.zero_le _
 | n+1,j=>by
  unfold signFrom
  split
  ·rename_i h
   unfold pre at h
   simp only [Bool.and_eq_true,decide_eq_true_eq] at h
   exact h.1
  ·exact signFrom_le s n (j+1)
theorem rowEnd_le {t:ByteArray} {i:Nat} (hi:i≤t.size):rowEnd t i≤t.size:=by
 have:=(rowEndN_le t (t.size - i) i).2
 unfold rowEnd
 omega
theorem look_le {t:ByteArray} {i:Nat} (hi:i<t.size):(look t i).next≤t.size:=by
 unfold look
 split
 ·exact rowEnd_le (by omega)
 ·split
  ·exact rowEnd_le (by omega)
  ·have:=signFrom_le (t.extract i t.size) 20 0
   rw [ByteArray.size_extract] at this
   show i+(signOf (t.extract i t.size)).size≤t.size
   unfold signOf
   omega
theorem own_below {w w':World} {ob:Nat} {e:TypeId} {z:Nat} {v:Value} {n:Nat} {xs:List Value} (h:w.ownsRow ob e z v n xs) (hb:Below w.heap.size w w'):w'.ownsRow ob e z v n xs:=by
 refine ⟨h.1,?_⟩
 rcases h.2 with h2|⟨g,cap,cur,hv,hg,hh,r⟩
 ·exact Or.inl h2
 ·exact Or.inr ⟨g,cap,cur,hv,hg,(hb.block g (Array.getElem?_eq_some_iff.1 hh).1).trans hh,r⟩
theorem own_base {w:World} {ob ob':Nat} {e:TypeId} {z:Nat} {v:Value} {n:Nat} {xs:List Value} (h:w.ownsRow ob e z v n xs) (hb:ob'≤ob):w.ownsRow ob' e z v n xs:=by
 refine ⟨h.1,?_⟩
 rcases h.2 with h2|⟨g,cap,cur,hv,hg,r⟩
 ·exact Or.inl h2
 ·exact Or.inr ⟨g,cap,cur,hv,Nat.le_trans hb hg,r⟩
theorem info_parts {P:Program} {e:TypeId} {z:Value} {n m:Nat} (h:(P.info? e).map (fun i=>(i.zero,i.size,i.bytes))=some (some z,n,m)):∃ i,P.info? e=some i∧i.zero=some z∧i.size=n∧i.bytes=m:=by
 cases hi:P.info? e with
 | none=>rw [hi] at h;cases h
 | some i=>
  rw [hi] at h
  simp at h
  exact ⟨i,rfl,h.1,h.2.1,h.2.2⟩
theorem set_off (w:World) (b o o':Nat) (v:Value) (h:o≠o'):(w.setCell ⟨b,o,none⟩ v).cell? ⟨b,o',none⟩=w.cell? ⟨b,o',none⟩:=World.cell?_setCell_other w ⟨b,o,none⟩ ⟨b,o',none⟩ v (fun e=>h (Addr.mk.inj e).2.1)
theorem info44:(Tryz.prog.info? 44).map (fun i=>(i.zero,i.size,i.bytes))=some (some (.agg #[.int .i64 0,.string ⟨#[]⟩,.int .i64 0]),3,32):=by kernel_rfl
theorem list_tok {w:World} {ops:Array Oper} {rest:List Oper} {o:Oper} {a:Act} {Q:Exit→Act→World→Prop} (p q:Operand) (hgd:o.guard=none)
  (ho:o.op=.call { callee:=.builtin .append,args:=#[p,q],argTypes:=#[35,35] })
  (ob:Nat) (v:Value) (n:Nat) (L:List Value) (hs:a.eval p=v) (hown:w.ownsRow ob 44 3 v n L)
  (B:Nat) (k:Tok) (hx:a.eval q=.slice (some ⟨B,0,none⟩) 1 1) (hB:w.heap[B]?=some (.cells #[.int .i64 k.kind,.string k.text,.int .i64 k.at_] 44 (0,0)))
  (hn:n≤16000) (hob:ob≤w.heap.size)
  (h:∀ g cap w',w'.ownsRow ob 44 3 (.slice (some ⟨g,0,none⟩) (n+1) cap) (n+1) (L++k.cells)→w.grownBy w' v.ownBlock→wpList Tryz.prog ops Q rest (a.put o.dst (.slice (some ⟨g,0,none⟩) (n+1) cap)) w'):
  wpList Tryz.prog ops Q (o::rest) a w:=by
 obtain ⟨i0,hi,hz0,hz1,hz2⟩:=info_parts info44
 refine wpList_append_lies w hgd p q 35 ho ob 44 i0 _ 3 32 Tryz.underlying35 hi hz0 hz1 hz2 rfl (by decide) v n L hs hown ⟨B,0,none⟩ 1 1 k.cells hx rfl (World.news_of_block hB) ?_ (by decide) (by unfold maxLen;omega) (by omega) hob w.heap.size rfl ?_
 ·intro u hu;simp [Tok.cells] at hu;rcases hu with rfl|rfl|rfl<;>rfl
 ·intro g cap w' h1 h2 _ _
  exact h g cap w' h1 h2
theorem scan_any (t:ByteArray) (w:World) (hm:t.size≤9223372036854775807):Calls Tryz.prog 13 #[.string t] w fun e w'=>∃ l,e=.returned (.tuple #[l,.agg #[.int .i64 (scan t).2.1,.int .i64 (scan t).2.2]])∧w'.ownsRow w.heap.size 44 3 l (scan t).1.length (toks (scan t).1)∧Below w.heap.size w w':=by
 obtain ⟨R,hR⟩:∃ R,R=scan t:=⟨_,rfl⟩
 rw [← hR]
 unfold scan at hR
 by_cases h4:4000<t.size
 ·have h4':(4000:Int)<t.size:=by omega
  rw [if_pos h4] at hR
  subst hR
  go_enter Tryz.func13,Tryz.ntmps13
  go_wp2_with fail
  refine bodyPost_ret (v:=.tuple #[.slice none 0 0,.agg #[.int .i64 1,.int .i64 0]]) (by simp [results,Tryz.results13,go_sem]) rfl ?_
  exact ⟨_,rfl,⟨rfl,Or.inl ⟨rfl,rfl⟩⟩,(Below.refl _ _).alloc (Nat.le_refl _) _⟩
 have h4':¬ (4000:Int)<t.size:=by omega
 rw [if_neg h4] at hR
 have HR:=hide hR
 clear hR
 go_enter Tryz.func13,Tryz.ntmps13
 go_wp2_with fail
 have hB0:Below w.heap.size w (w.alloc (.cells #[.int .i64 0,.int .i64 0] 27)):=(Below.refl _ _).alloc (Nat.le_refl _) _
 have hq0:(w.alloc (.cells #[.int .i64 0,.int .i64 0] 27)).heap[w.heap.size]?=some (.cells #[.int .i64 0,.int .i64 0] 27 (0,0)):=heap_alloc_new w _
 have hz0:(w.alloc (.cells #[.int .i64 0,.int .i64 0] 27)).heap.size=w.heap.size+1:=by simp
 generalize w.alloc (.cells #[.int .i64 0,.int .i64 0] 27)=W at *
 have HW:Hid (∀ w',Below W.heap.size W w'→Below w.heap.size w w'):=fun w' hw=>hB0.trans (hw.mono (by omega))
 have HQ:Hid (∀ w',Below W.heap.size W w'→(∀ o,w'.cell? ⟨w.heap.size,o,none⟩=(#[Value.int .i64 0,.int .i64 0])[o]?)∧(∀ o,w'.frozen? ⟨w.heap.size,o,none⟩=false)):=fun w' hw=>by
  have e:=(hw.block w.heap.size (by omega)).trans hq0
  exact ⟨fun o=>by simp [World.cell?,e],fun o=>by simp only [World.frozen?,e];rfl⟩
 have HZ:=hide hz0
 clear hq0 hB0 hz0
 go_loopw [4,5,6] (fun l nt i' wr=>∃ (i n:Nat) (note:Bool) (L:List Tok),i≤t.size∧t.size≤i+n∧L.length≤i∧i'=.int .i64 i∧nt=.bool note∧Hid (Below W.heap.size W wr)∧Hid (wr.ownsRow W.heap.size 44 3 l L.length (toks L))∧Hid (R=scanN t n i note L)) (fun _ _ i' _=>t.size - (intOf i').toNat)
 case atStart=>exact ⟨0,t.size,false,[],Nat.zero_le _,by omega,Nat.zero_le _,rfl,rfl,Below.refl _ _,⟨rfl,Or.inl ⟨rfl,rfl⟩⟩,HR⟩
 case round=>
  obtain ⟨i,n,note,L,hi,hin,hLi,rfl,rfl,HB,HO,HS⟩:=hrel
  obtain ⟨qx,qf⟩:=HQ.out wr HB.out
  by_cases hlt:i<t.size
  ·have hlt':(i:Int)<t.size:=by omega
   have hidx:(0:Int)≤i∧(i:Int)<t.size:=by omega
   have hb8:t[i].toNat<256:=UInt8.toNat_lt _
   have hbi:=byteAt_get t i hlt
   obtain ⟨m,rfl⟩:∃ m,n=m+1:=⟨n - 1,by omega⟩
   have HS1:Hid (R=if blank note t[i].toNat then scanN t m (i+1) (note2 note t[i].toNat) L else if (look t i).code=0 then scanN t m (look t i).next note (L++[⟨(look t i).kind,(look t i).text,i⟩]) else ([],(look t i).code,i)):=by
    show _=_
    rw [HS.out,scanN_succ,if_pos hlt,hbi]
   have HBi:=hide hbi
   clear HS hbi
   cases note with
   | true=>
    by_cases c10:t[i].toNat=10
    ·have HC:=hide c10
     have e10:((t[i].toNat:Int) == 10)=true:=by simp;omega
     have f10:((t[i].toNat:Int) != 10)=false:=by simp;omega
     have HS2:Hid (R=scanN t m (i+1) false L):=by show _=_;rw [HS1.out,if_pos (by unfold blank;rfl),show note2 true t[i].toNat=false by unfold note2;simp [HC.out]]
     clear c10
     go_wp2_with fail
     go_roundw
     case rel=>exact ⟨i+1,m,false,L,by omega,by omega,by omega,by go_num,rfl,HB,HO,HS2⟩
     case measure=>simp [intOf];omega
    ·have HC:=hide c10
     have e10:((t[i].toNat:Int) == 10)=false:=by simp;omega
     have f10:((t[i].toNat:Int) != 10)=true:=by simp;omega
     have HS2:Hid (R=scanN t m (i+1) true L):=by show _=_;rw [HS1.out,if_pos (by unfold blank;rfl),show note2 true t[i].toNat=true by unfold note2;simp [HC.out]]
     clear c10
     go_wp2_with fail
     go_roundw
     case rel=>exact ⟨i+1,m,true,L,by omega,by omega,by omega,by go_num,rfl,HB,HO,HS2⟩
     case measure=>simp [intOf];omega
   | false=>
    by_cases c32:t[i].toNat=32
    ·have HC:=hide c32
     have e32:((t[i].toNat:Int) == 32)=true:=by simp;omega
     have f32:((t[i].toNat:Int) != 32)=false:=by simp;omega
     have e10:((t[i].toNat:Int) == 10)=false:=by simp;omega
     have f10:((t[i].toNat:Int) != 10)=true:=by simp;omega
     have e35:((t[i].toNat:Int) == 35)=false:=by simp;omega
     have f35:((t[i].toNat:Int) != 35)=true:=by simp;omega
     have HS2:Hid (R=scanN t m (i+1) false L):=by show _=_;rw [HS1.out,if_pos (by unfold blank;simp [HC.out]),show note2 false t[i].toNat=false by unfold note2;simp [HC.out]]
     clear c32
     go_wp2_with fail
     go_roundw
     case rel=>exact ⟨i+1,m,false,L,by omega,by omega,by omega,by go_num,rfl,HB,HO,HS2⟩
     case measure=>simp [intOf];omega
    by_cases c10:t[i].toNat=10
    ·have HC:=hide c10
     have e32:((t[i].toNat:Int) == 32)=false:=by simp;omega
     have f32:((t[i].toNat:Int) != 32)=true:=by simp;omega
     have e10:((t[i].toNat:Int) == 10)=true:=by simp;omega
     have f10:((t[i].toNat:Int) != 10)=false:=by simp;omega
     have e35:((t[i].toNat:Int) == 35)=false:=by simp;omega
     have f35:((t[i].toNat:Int) != 35)=true:=by simp;omega
     have HS2:Hid (R=scanN t m (i+1) false L):=by show _=_;rw [HS1.out,if_pos (by unfold blank;simp [HC.out]),show note2 false t[i].toNat=false by unfold note2;simp [HC.out]]
     clear c10 c32
     go_wp2_with fail
     go_roundw
     case rel=>exact ⟨i+1,m,false,L,by omega,by omega,by omega,by go_num,rfl,HB,HO,HS2⟩
     case measure=>simp [intOf];omega
    by_cases c35:t[i].toNat=35
    ·have HC:=hide c35
     have e32:((t[i].toNat:Int) == 32)=false:=by simp;omega
     have f32:((t[i].toNat:Int) != 32)=true:=by simp;omega
     have e10:((t[i].toNat:Int) == 10)=false:=by simp;omega
     have f10:((t[i].toNat:Int) != 10)=true:=by simp;omega
     have e35:((t[i].toNat:Int) == 35)=true:=by simp;omega
     have f35:((t[i].toNat:Int) != 35)=false:=by simp;omega
     have HS2:Hid (R=scanN t m (i+1) true L):=by show _=_;rw [HS1.out,if_pos (by unfold blank;simp [HC.out]),show note2 false t[i].toNat=true by unfold note2;simp [HC.out]]
     clear c35 c10 c32
     go_wp2_with fail
     go_roundw
     case rel=>exact ⟨i+1,m,true,L,by omega,by omega,by omega,by go_num,rfl,HB,HO,HS2⟩
     case measure=>simp [intOf];omega
    have e32:((t[i].toNat:Int) == 32)=false:=by simp;omega
    have e10:((t[i].toNat:Int) == 10)=false:=by simp;omega
    have e35:((t[i].toNat:Int) == 35)=false:=by simp;omega
    have HS2:Hid (R=if (look t i).code=0 then scanN t m (look t i).next false (L++[⟨(look t i).kind,(look t i).text,i⟩]) else ([],(look t i).code,i)):=by
     show _=_
     rw [HS1.out,if_neg (by unfold blank;simp [c32,c10,c35])]
    clear c32 c10 c35 HS1
    generalize wr=wo at *
    go_wp2_with fail
    go_loopw [8] (fun to' wr=>∃ j:Nat,i≤j∧j≤t.size∧to'=.int .i64 j∧wr=wo∧Hid (rowEnd t i=rowEndN t (t.size - j) j)) (fun to' _=>t.size - (intOf to').toNat)
    case atStart=>exact ⟨i,Nat.le_refl _,hi,rfl,rfl,rfl⟩
    case round=>
     obtain ⟨j,hij,hjs,rfl,rfl,HE⟩:=hrel
     by_cases hjt:j<t.size
     ·have hjt':(j:Int)<t.size:=by omega
      have hjid:(0:Int)≤j∧(j:Int)<t.size:=by omega
      have hj8:t[j].toNat<256:=UInt8.toNat_lt _
      have hbj:=byteAt_get t j hjt
      have hin2:=fun w'=>inside_any t[j].toNat w' hj8
      have HE2:Hid (rowEnd t i=if insB t[j].toNat then rowEndN t (t.size - (j+1)) (j+1) else j):=by
       show _=_
       rw [HE.out,show t.size - j=(t.size - (j+1))+1 by omega]
       show (if insB (byteAt t j) then _ else _)=_
       rw [hbj]
      clear hbj
      cases hI:insB t[j].toNat with
      | true=>
       rw [hI] at hin2
       have HE3:Hid (rowEnd t i=rowEndN t (t.size - (j+1)) (j+1)):=by show _=_;rw [HE2.out,hI];rfl
       go_wp2_with fail
       go_at_call 22
       refine (hin2 _).mono ?_
       rintro e w1 ⟨rfl,rfl⟩
       go_wp2_with fail
       go_roundw
       case rel=>exact ⟨j+1,by omega,by omega,by go_num,trivial,HE3⟩
       case measure=>simp [intOf];omega
      | false=>
       rw [hI] at hin2
       have HTo:Hid (rowEnd t i=j):=by show _=_;rw [HE2.out,hI];rfl
       clear HE HE2
       go_wp2_with fail
       go_at_call 22
       refine (hin2 _).mono ?_
       rintro e w1 ⟨rfl,rfl⟩
       clear hin2 hI
       have hsl:(0:Int)≤i∧(i:Int)≤t.size:=by omega
       have hsl2:(i:Int)≤j∧(j:Int)≤t.size:=by omega
       have hsg:=fun w'=>sign_any (t.extract i t.size) w' (by rw [ByteArray.size_extract];omega)
       have hle:=fun w'=>letter_any t[i].toNat w' hb8
       have hdi:=fun w'=>digit_any t[i].toNat w' hb8
       have hsgl:=signFrom_le (t.extract i t.size) 20 0
       rw [ByteArray.size_extract] at hsgl
       have HSg:Hid (signOf (t.extract i t.size)=signFrom (t.extract i t.size) 0 20):=rfl
       obtain ⟨sg,hsge⟩:∃ sg,sg=signOf (t.extract i t.size):=⟨_,rfl⟩
       rw [← HSg.out,← hsge] at hsgl
       rw [← hsge] at hsg
       have hji:IntKind.i64.wrap ((j:Int) - i)=((j - i:Nat):Int):=by rw [IntKind.wrap_i64];omega
       have HLook:Hid (look t i=if letB t[i].toNat then ⟨if 16<j - i then 1 else 0,1,t.extract i j,j⟩ else if digB t[i].toNat then ⟨rowCode (t.extract i j),if isL (t.extract i j) then 3 else 2,rowText (t.extract i j),j⟩ else ⟨if sg.size=0 then 2 else 0,4,sg,i+sg.size⟩):=by
        show _=_
        unfold look
        rw [HTo.out,HBi.out,← hsge]
       have HGe:=hide hsge
       clear hsge
       go_wp2_with fail
       go_at_call 23
       refine (hsg _).mono ?_
       rintro e w2 ⟨rfl,hb2'⟩
       have HB2:Hid (Below W.heap.size W w2):=HB.out.trans (hb2'.mono HB.out.size)
       obtain ⟨qx2,qf2⟩:=HQ.out w2 HB2.out
       have hsz2:w.heap.size<w2.heap.size:=by have:=HB2.out.size;rw [HZ.out] at this;omega
       have hsz3:w1.heap.size≤w2.heap.size:=hb2'.size
       have hgt:insB t[i].toNat=true→i<j:=fun h=>by
        have:=rowEnd_gt hlt (by rw [HBi.out];exact h)
        rw [HTo.out] at this
        exact this
       have HGt:=hide hgt
       clear hgt
       cases hLe:letB t[i].toNat with
       | true=>
        rw [hLe] at hle
        have hij2:i<j:=HGt.out (let_ins hLe)
        by_cases h16:16<j - i
        ·have h16':(16:Int)<((j - i:Nat):Int):=by omega
         have HLk:Hid (look t i=⟨1,1,t.extract i j,j⟩):=by show _=_;rw [HLook.out,hLe,if_pos rfl,if_pos h16]
         go_wp2_with fail
         go_at_call 24
         refine (hle _).mono ?_
         rintro e w3 ⟨rfl,rfl⟩
         obtain rfl:R=([],1,i):=by rw [HS2.out,HLk.out];rfl
         go_wp2_with fail
         refine bodyPost_ret (v:=.tuple #[.slice none 0 0,.agg #[.int .i64 1,.int .i64 i]]) (by simp [results,Tryz.results13,go_sem,qx2,qf2,hsz2]) rfl ?_
         refine ⟨_,rfl,⟨rfl,Or.inl ⟨rfl,rfl⟩⟩,?_⟩
         have hBw:=HW.out _ HB2.out
         exact ((hBw.setCell (Nat.le_refl _) _).setCell (Nat.le_refl _) _).alloc (by simp only [World.setCell,Array.size_modify];omega) _
        ·have h16':¬ (16:Int)<((j - i:Nat):Int):=by omega
         have HLk:Hid (look t i=⟨0,1,t.extract i j,j⟩):=by show _=_;rw [HLook.out,hLe,if_pos rfl,if_neg h16]
         go_wp2_with fail
         go_at_call 24
         refine (hle _).mono ?_
         rintro e w3 ⟨rfl,rfl⟩
         have HS3:Hid (R=scanN t m j false (L++[⟨1,(t.extract i j),i⟩])):=by show _=_;rw [HS2.out,HLk.out];rfl
         have hBV:Below w2.heap.size w2 ((w2.alloc (.cells #[.int .i64 1,.string (t.extract i j),.int .i64 i] 44)).alloc (.cells #[.int .i64 1,.string (t.extract i j),.int .i64 i] 44)):=((Below.refl _ _).alloc (Nat.le_refl _) _).alloc (by simp) _
         have hq1:((w2.alloc (.cells #[.int .i64 1,.string (t.extract i j),.int .i64 i] 44)).alloc (.cells #[.int .i64 1,.string (t.extract i j),.int .i64 i] 44)).heap[w2.heap.size+1]?=some (.cells #[.int .i64 1,.string (t.extract i j),.int .i64 i] 44 (0,0)):=by
          have:=heap_alloc_new (w2.alloc (.cells #[.int .i64 1,.string (t.extract i j),.int .i64 i] 44)) (.cells #[.int .i64 1,.string (t.extract i j),.int .i64 i] 44)
          simpa using this
         have hq2:((w2.alloc (.cells #[.int .i64 1,.string (t.extract i j),.int .i64 i] 44)).alloc (.cells #[.int .i64 1,.string (t.extract i j),.int .i64 i] 44)).heap[w2.heap.size]?=some (.cells #[.int .i64 1,.string (t.extract i j),.int .i64 i] 44 (0,0)):=(Below.heap_alloc _ _ _ (by simp)).trans (heap_alloc_new w2 _)
         have hszV:((w2.alloc (.cells #[.int .i64 1,.string (t.extract i j),.int .i64 i] 44)).alloc (.cells #[.int .i64 1,.string (t.extract i j),.int .i64 i] 44)).heap.size=w2.heap.size+1+1:=by simp
         have HV:=hide (And.intro (own_below HO.out (hb2'.trans (hBV.mono hb2'.size))) (And.intro hq1 (And.intro (show W.heap.size≤((w2.alloc (.cells #[.int .i64 1,.string (t.extract i j),.int .i64 i] 44)).alloc (.cells #[.int .i64 1,.string (t.extract i j),.int .i64 i] 44)).heap.size from Nat.le_trans HB2.out.size hBV.size) (And.intro (HB2.out.trans (hBV.mono HB2.out.size)) (And.intro hq2 (And.intro hszV HO.out))))))
         clear hBV hq1 hq2 hszV
         go_wp2_with (at_builtin;refine list_tok _ _ rfl rfl W.heap.size u4 L.length (toks L) ?e1 ?e2 (w2.heap.size+1) ⟨1,(t.extract i j),i⟩ ?e3 ?e4 (by omega) ?e5 ?_;(case e1=>rfl);(case e2=>exact HV.out.1);(case e3=>rfl);(case e4=>exact HV.out.2.1);(case e5=>exact HV.out.2.2.1);intro g cap w5 hown hgr;have HB5:Hid (Below W.heap.size W w5):=HV.out.2.2.2.1.grown hgr HV.out.2.2.1 (fun i hi=>(HV.out.1.lt i hi).1);have hc5:∀ o,w5.cell? ⟨w2.heap.size,o,none⟩=(#[Value.int .i64 1,.string (t.extract i j),.int .i64 i])[o]?:=fun o=>(World.cell?_of_block (a:=⟨w2.heap.size,o,none⟩) (hgr.block w2.heap.size (by rw [HV.out.2.2.2.2.2.1];omega) (fun e=>by have:=(HV.out.2.2.2.2.2.2.lt _ e.symm).2;omega))).trans (by simp [World.cell?,HV.out.2.2.2.2.1]);have O1:=hide hown;clear hown hgr)
         go_roundw
         case rel=>
          refine ⟨j,m,false,L++[⟨1,(t.extract i j),i⟩],by omega,by omega,by simp;omega,rfl,rfl,HB5,?_,HS3⟩
          show World.ownsRow _ _ _ _ _ _ _
          rw [toks_app,List.length_append]
          exact O1.out
         case measure=>simp [intOf];omega
       | false=>
        rw [hLe] at hle
        cases hDi:digB t[i].toNat with
        | true=>
         rw [hDi] at hdi
         have hij2:i<j:=HGt.out (dig_ins hDi)
         have hes:(t.extract i j).size=j - i:=by rw [ByteArray.size_extract];omega
         have hrow:=fun w'=>row_any (t.extract i j) w' (by omega) (by omega)
         obtain ⟨rc,hrc⟩:∃ rc,rc=rowCode (t.extract i j):=⟨_,rfl⟩
         have hLkd:look t i=⟨rc,if isL (t.extract i j) then 3 else 2,rowText (t.extract i j),j⟩:=by rw [HLook.out,hLe,hDi,if_neg (by decide),if_pos rfl,hrc]
         rw [← hrc] at hrow
         have HBv:Hid (Below W.heap.size W (w2.alloc (.cells #[.int .i64 4,.string sg,.int .i64 0] 44))):=HB2.out.alloc HB2.out.size _
         by_cases rz:rc=0
         ·subst rz
          obtain ⟨kd,hkd⟩:∃ kd:Int,kd=if isL (t.extract i j) then 3 else 2:=⟨_,rfl⟩
          obtain ⟨tx,htx⟩:∃ tx,tx=rowText (t.extract i j):=⟨_,rfl⟩
          have htk:rowTok (t.extract i j)=#[.int .i64 kd,.string tx,.int .i64 0]:=by unfold rowTok;rw [← hrc,if_pos rfl,hkd,htx]
          rw [htk] at hrow
          have HLk:Hid (look t i=⟨0,kd,tx,j⟩):=by show _=_;rw [hLkd,hkd,htx]
          have k4:(kd == 4)=false:=by rw [hkd];split<;>rfl
          have k4':¬ kd=4:=by simpa using k4
          have HH:=hide (And.intro hrc (And.intro htk (And.intro hkd htx)))
          clear hrc htk hLkd hkd htx
          go_wp2_with fail
          go_at_call 24
          refine (hle _).mono ?_
          rintro e w3 ⟨rfl,rfl⟩
          go_wp2_with fail
          go_at_call 25
          refine (hdi _).mono ?_
          rintro e w3 ⟨rfl,rfl⟩
          go_wp2_with fail
          go_at_call 26
          refine (hrow _).mono ?_
          rintro e w3 ⟨rfl,hb3⟩
          have HB3:Hid (Below W.heap.size W w3):=HBv.out.trans (hb3.mono HBv.out.size)
          obtain ⟨qx3,qf3⟩:=HQ.out w3 HB3.out
          have y3:∀ o,w3.cell? ⟨w2.heap.size,o,none⟩=(#[Value.int .i64 4,.string sg,.int .i64 0])[o]?:=fun o=>(hb3.cell (p:=⟨w2.heap.size,o,none⟩) (by simp)).trans (World.cell?_alloc_at _ _ _ _ rfl)
          have fy3:∀ o,w3.frozen? ⟨w2.heap.size,o,none⟩=false:=fun o=>(hb3.frozen (p:=⟨w2.heap.size,o,none⟩) (by simp)).trans (by have hh:=heap_alloc_new w2 (.cells #[.int .i64 4,.string sg,.int .i64 0] 44);simp only [World.frozen?,hh];rfl)
          have hne3:w2.heap.size≠w.heap.size:=by omega
          have hq3:w2.heap.size<w3.heap.size:=by have:=hb3.size;simp at this;omega
          have HS3:Hid (R=scanN t m j false (L++[⟨kd,tx,i⟩])):=by show _=_;rw [HS2.out,HLk.out];rfl
          have hWq:W.heap.size≤w2.heap.size:=HB2.out.size
          have hX0:Below w1.heap.size w1 w3:=(hb2'.alloc hsz3 _).trans (hb3.mono (by simp;omega))
          have hX1:Below w1.heap.size w1 ((((w3.setCell ⟨w2.heap.size,0,none⟩ (.int .i64 kd)).setCell ⟨w2.heap.size,1,none⟩ (.string tx)).setCell ⟨w2.heap.size,2,none⟩ (.int .i64 0)).setCell ⟨w2.heap.size,2,none⟩ (.int .i64 i)):=(((hX0.setCell (show w1.heap.size≤w2.heap.size from hsz3) _).setCell (show w1.heap.size≤w2.heap.size from hsz3) _).setCell (show w1.heap.size≤w2.heap.size from hsz3) _).setCell (show w1.heap.size≤w2.heap.size from hsz3) _
          have hX2:Below W.heap.size W ((((w3.setCell ⟨w2.heap.size,0,none⟩ (.int .i64 kd)).setCell ⟨w2.heap.size,1,none⟩ (.string tx)).setCell ⟨w2.heap.size,2,none⟩ (.int .i64 0)).setCell ⟨w2.heap.size,2,none⟩ (.int .i64 i)):=(((HB3.out.setCell (show W.heap.size≤w2.heap.size from hWq) _).setCell (show W.heap.size≤w2.heap.size from hWq) _).setCell (show W.heap.size≤w2.heap.size from hWq) _).setCell (show W.heap.size≤w2.heap.size from hWq) _
          have hXs:((((w3.setCell ⟨w2.heap.size,0,none⟩ (.int .i64 kd)).setCell ⟨w2.heap.size,1,none⟩ (.string tx)).setCell ⟨w2.heap.size,2,none⟩ (.int .i64 0)).setCell ⟨w2.heap.size,2,none⟩ (.int .i64 i)).heap.size=w3.heap.size:=by simp only [World.setCell,Array.size_modify]
          have hXk:((((w3.setCell ⟨w2.heap.size,0,none⟩ (.int .i64 kd)).setCell ⟨w2.heap.size,1,none⟩ (.string tx)).setCell ⟨w2.heap.size,2,none⟩ (.int .i64 0)).setCell ⟨w2.heap.size,2,none⟩ (.int .i64 i)).cell? ⟨w2.heap.size,0,none⟩=some (.int .i64 kd):=((set_off _ _ _ _ _ (by omega)).trans ((set_off _ _ _ _ _ (by omega)).trans (set_off _ _ _ _ _ (by omega)))).trans (World.cell?_setCell_same w3 ⟨w2.heap.size,0,none⟩ _ (y3 0))
          have hX2v:((((w3.setCell ⟨w2.heap.size,0,none⟩ (.int .i64 kd)).setCell ⟨w2.heap.size,1,none⟩ (.string tx)).setCell ⟨w2.heap.size,2,none⟩ (.int .i64 0)).setCell ⟨w2.heap.size,2,none⟩ (.int .i64 i)).cell? ⟨w2.heap.size,2,none⟩=some (.int .i64 i):=World.cell?_setCell_same _ ⟨w2.heap.size,2,none⟩ _ (World.cell?_setCell_same _ ⟨w2.heap.size,2,none⟩ _ ((set_off _ _ _ _ _ (by omega)).trans ((set_off _ _ _ _ _ (by omega)).trans (y3 2))))
          have hX1v:((((w3.setCell ⟨w2.heap.size,0,none⟩ (.int .i64 kd)).setCell ⟨w2.heap.size,1,none⟩ (.string tx)).setCell ⟨w2.heap.size,2,none⟩ (.int .i64 0)).setCell ⟨w2.heap.size,2,none⟩ (.int .i64 i)).cell? ⟨w2.heap.size,1,none⟩=some (.string tx):=((set_off _ _ _ _ _ (by omega)).trans (set_off _ _ _ _ _ (by omega))).trans (World.cell?_setCell_same _ ⟨w2.heap.size,1,none⟩ _ ((set_off _ _ _ _ _ (by omega)).trans (y3 1)))
          have hV1:(((((w3.setCell ⟨w2.heap.size,0,none⟩ (.int .i64 kd)).setCell ⟨w2.heap.size,1,none⟩ (.string tx)).setCell ⟨w2.heap.size,2,none⟩ (.int .i64 0)).setCell ⟨w2.heap.size,2,none⟩ (.int .i64 i)).alloc (.cells #[.int .i64 kd,.string tx,.int .i64 i] 44)).heap[w3.heap.size]?=some (.cells #[.int .i64 kd,.string tx,.int .i64 i] 44 (0,0)):=by rw [← hXs];exact heap_alloc_new _ _
          have hVs:(((((w3.setCell ⟨w2.heap.size,0,none⟩ (.int .i64 kd)).setCell ⟨w2.heap.size,1,none⟩ (.string tx)).setCell ⟨w2.heap.size,2,none⟩ (.int .i64 0)).setCell ⟨w2.heap.size,2,none⟩ (.int .i64 i)).alloc (.cells #[.int .i64 kd,.string tx,.int .i64 i] 44)).heap.size=w3.heap.size+1:=by rw [World.size_alloc,hXs]
          have hVk:(((((w3.setCell ⟨w2.heap.size,0,none⟩ (.int .i64 kd)).setCell ⟨w2.heap.size,1,none⟩ (.string tx)).setCell ⟨w2.heap.size,2,none⟩ (.int .i64 0)).setCell ⟨w2.heap.size,2,none⟩ (.int .i64 i)).alloc (.cells #[.int .i64 kd,.string tx,.int .i64 i] 44)).cell? ⟨w2.heap.size,0,none⟩=some (.int .i64 kd):=(World.cell?_alloc_past _ _ _ (by rw [hXs];exact hq3)).trans hXk
          have HV:=hide (And.intro (own_below HO.out (hX1.alloc (by rw [hXs];omega) (.cells #[.int .i64 kd,.string tx,.int .i64 i] 44))) (And.intro hV1 (And.intro (show W.heap.size≤(((((w3.setCell ⟨w2.heap.size,0,none⟩ (.int .i64 kd)).setCell ⟨w2.heap.size,1,none⟩ (.string tx)).setCell ⟨w2.heap.size,2,none⟩ (.int .i64 0)).setCell ⟨w2.heap.size,2,none⟩ (.int .i64 i)).alloc (.cells #[.int .i64 kd,.string tx,.int .i64 i] 44)).heap.size by rw [hVs];omega) (And.intro (hX2.alloc (by rw [hXs];omega) (.cells #[.int .i64 kd,.string tx,.int .i64 i] 44)) (And.intro hVk (And.intro hVs HO.out))))))
          clear hX0 hX1 hX2 hV1 hVs hVk hb3 hWq
          go_wp2_with (at_builtin;refine list_tok _ _ rfl rfl W.heap.size u4 L.length (toks L) ?e1 ?e2 w3.heap.size ⟨kd,tx,i⟩ ?e3 ?e4 (by omega) ?e5 ?_;(case e1=>rfl);(case e2=>exact HV.out.1);(case e3=>rfl);(case e4=>exact HV.out.2.1);(case e5=>exact HV.out.2.2.1);intro g cap w5 hown hgr;have HB5:Hid (Below W.heap.size W w5):=HV.out.2.2.2.1.grown hgr HV.out.2.2.1 (fun i hi=>(HV.out.1.lt i hi).1);have hc5:w5.cell? ⟨w2.heap.size,0,none⟩=some (.int .i64 kd):=(World.cell?_of_block (a:=⟨w2.heap.size,0,none⟩) (hgr.block w2.heap.size (by rw [HV.out.2.2.2.2.2.1];omega) (fun e=>by have:=(HV.out.2.2.2.2.2.2.lt _ e.symm).2;omega))).trans HV.out.2.2.2.2.1;have O1:=hide hown;clear hown hgr)
          go_roundw
          case rel=>
           refine ⟨j,m,false,L++[⟨kd,tx,i⟩],by omega,by omega,by simp;omega,rfl,rfl,HB5,?_,HS3⟩
           show World.ownsRow _ _ _ _ _ _ _
           rw [toks_app,List.length_append]
           exact O1.out
          case measure=>simp [intOf];omega
         ·have rz':(rc == 0)=false:=by simpa using rz
          have rz2:(rc != 0)=true:=by simpa using rz
          have htk:rowTok (t.extract i j)=#[.int .i64 0,.string ⟨#[]⟩,.int .i64 0]:=by unfold rowTok;rw [← hrc,if_neg rz]
          rw [htk] at hrow
          have HLk:Hid (look t i=⟨rc,if isL (t.extract i j) then 3 else 2,rowText (t.extract i j),j⟩):=hLkd
          obtain rfl:R=([],rc,i):=by rw [HS2.out,HLk.out];exact if_neg rz
          have HH:=hide (And.intro hrc (And.intro rz htk))
          clear hrc rz htk hLkd
          go_wp2_with fail
          go_at_call 24
          refine (hle _).mono ?_
          rintro e w3 ⟨rfl,rfl⟩
          go_wp2_with fail
          go_at_call 25
          refine (hdi _).mono ?_
          rintro e w3 ⟨rfl,rfl⟩
          go_wp2_with fail
          go_at_call 26
          refine (hrow _).mono ?_
          rintro e w3 ⟨rfl,hb3⟩
          have HB3:Hid (Below W.heap.size W w3):=HBv.out.trans (hb3.mono HBv.out.size)
          obtain ⟨qx3,qf3⟩:=HQ.out w3 HB3.out
          have y3:∀ o,w3.cell? ⟨w2.heap.size,o,none⟩=(#[Value.int .i64 4,.string sg,.int .i64 0])[o]?:=fun o=>(hb3.cell (p:=⟨w2.heap.size,o,none⟩) (by simp)).trans (World.cell?_alloc_at _ _ _ _ rfl)
          have fy3:∀ o,w3.frozen? ⟨w2.heap.size,o,none⟩=false:=fun o=>(hb3.frozen (p:=⟨w2.heap.size,o,none⟩) (by simp)).trans (by have hh:=heap_alloc_new w2 (.cells #[.int .i64 4,.string sg,.int .i64 0] 44);simp only [World.frozen?,hh];rfl)
          have hne3:w2.heap.size≠w.heap.size:=by omega
          clear hb3
          go_wp2_with fail
          refine bodyPost_ret (v:=.tuple #[.slice none 0 0,.agg #[.int .i64 rc,.int .i64 i]]) (by simp [results,Tryz.results13,go_sem,qx3,qf3,y3,hne3]) rfl ?_
          refine ⟨_,rfl,⟨rfl,Or.inl ⟨rfl,rfl⟩⟩,?_⟩
          have hle2:w.heap.size≤w2.heap.size:=by omega
          exact (((((HW.out _ HB3.out).setCell (show w.heap.size≤w2.heap.size from hle2) _).setCell (show w.heap.size≤w2.heap.size from hle2) _).setCell (show w.heap.size≤w2.heap.size from hle2) _).setCell (Nat.le_refl _) _).setCell (Nat.le_refl _) _
        | false=>
         rw [hDi] at hdi
         by_cases sz:sg.size=0
         ·have HLk:Hid (look t i=⟨2,4,sg,i+sg.size⟩):=by show _=_;rw [HLook.out,hLe,hDi,if_neg (by decide),if_neg (by decide),if_pos sz]
          have se:(sg.toList == [])=true:=by
           rw [ByteArray.toList_eq]
           have:sg.data.toList.length=0:=sz
           rw [List.length_eq_zero_iff.1 this]
           rfl
          have HH:=hide sz
          clear sz
          go_wp2_with fail
          go_at_call 24
          refine (hle _).mono ?_
          rintro e w3 ⟨rfl,rfl⟩
          go_wp2_with fail
          go_at_call 25
          refine (hdi _).mono ?_
          rintro e w3 ⟨rfl,rfl⟩
          obtain rfl:R=([],2,i):=by rw [HS2.out,HLk.out];rfl
          go_wp2_with fail
          refine bodyPost_ret (v:=.tuple #[.slice none 0 0,.agg #[.int .i64 2,.int .i64 i]]) (by simp [results,Tryz.results13,go_sem,qx2,qf2,hsz2]) rfl ?_
          refine ⟨_,rfl,⟨rfl,Or.inl ⟨rfl,rfl⟩⟩,?_⟩
          have hBw:=HW.out _ HB2.out
          exact ((hBw.setCell (Nat.le_refl _) _).setCell (Nat.le_refl _) _).alloc (by simp only [World.setCell,Array.size_modify];omega) _
         ·have HLk:Hid (look t i=⟨0,4,sg,i+sg.size⟩):=by show _=_;rw [HLook.out,hLe,hDi,if_neg (by decide),if_neg (by decide),if_neg sz]
          have se:(sg.toList == [])=false:=by
           rw [ByteArray.toList_eq,beq_eq_false_iff_ne]
           intro e
           exact sz (show sg.data.toList.length=0 by rw [e];rfl)
          have se2:¬ sg.toList=[]:=by simpa using se
          have hwz:IntKind.i64.wrap ((i:Int)+sg.size)=((i+sg.size:Nat):Int):=by rw [IntKind.wrap_i64];omega
          go_wp2_with fail
          go_at_call 24
          refine (hle _).mono ?_
          rintro e w3 ⟨rfl,rfl⟩
          go_wp2_with fail
          go_at_call 25
          refine (hdi _).mono ?_
          rintro e w3 ⟨rfl,rfl⟩
          have HS3:Hid (R=scanN t m (i+sg.size) false (L++[⟨4,sg,i⟩])):=by show _=_;rw [HS2.out,HLk.out];rfl
          have hBV:Below w2.heap.size w2 ((w2.alloc (.cells #[.int .i64 4,.string sg,.int .i64 i] 44)).alloc (.cells #[.int .i64 4,.string sg,.int .i64 i] 44)):=((Below.refl _ _).alloc (Nat.le_refl _) _).alloc (by simp) _
          have hq1:((w2.alloc (.cells #[.int .i64 4,.string sg,.int .i64 i] 44)).alloc (.cells #[.int .i64 4,.string sg,.int .i64 i] 44)).heap[w2.heap.size+1]?=some (.cells #[.int .i64 4,.string sg,.int .i64 i] 44 (0,0)):=by
           have:=heap_alloc_new (w2.alloc (.cells #[.int .i64 4,.string sg,.int .i64 i] 44)) (.cells #[.int .i64 4,.string sg,.int .i64 i] 44)
           simpa using this
          have hq2:((w2.alloc (.cells #[.int .i64 4,.string sg,.int .i64 i] 44)).alloc (.cells #[.int .i64 4,.string sg,.int .i64 i] 44)).heap[w2.heap.size]?=some (.cells #[.int .i64 4,.string sg,.int .i64 i] 44 (0,0)):=(Below.heap_alloc _ _ _ (by simp)).trans (heap_alloc_new w2 _)
          have hszV:((w2.alloc (.cells #[.int .i64 4,.string sg,.int .i64 i] 44)).alloc (.cells #[.int .i64 4,.string sg,.int .i64 i] 44)).heap.size=w2.heap.size+1+1:=by simp
          have HV:=hide (And.intro (own_below HO.out (hb2'.trans (hBV.mono hb2'.size))) (And.intro hq1 (And.intro (show W.heap.size≤((w2.alloc (.cells #[.int .i64 4,.string sg,.int .i64 i] 44)).alloc (.cells #[.int .i64 4,.string sg,.int .i64 i] 44)).heap.size from Nat.le_trans HB2.out.size hBV.size) (And.intro (HB2.out.trans (hBV.mono HB2.out.size)) (And.intro hq2 (And.intro hszV HO.out))))))
          clear hBV hq1 hq2 hszV
          go_wp2_with (at_builtin;refine list_tok _ _ rfl rfl W.heap.size u4 L.length (toks L) ?e1 ?e2 (w2.heap.size+1) ⟨4,sg,i⟩ ?e3 ?e4 (by omega) ?e5 ?_;(case e1=>rfl);(case e2=>exact HV.out.1);(case e3=>rfl);(case e4=>exact HV.out.2.1);(case e5=>exact HV.out.2.2.1);intro g cap w5 hown hgr;have HB5:Hid (Below W.heap.size W w5):=HV.out.2.2.2.1.grown hgr HV.out.2.2.1 (fun i hi=>(HV.out.1.lt i hi).1);have hc5:∀ o,w5.cell? ⟨w2.heap.size,o,none⟩=(#[Value.int .i64 4,.string sg,.int .i64 i])[o]?:=fun o=>(World.cell?_of_block (a:=⟨w2.heap.size,o,none⟩) (hgr.block w2.heap.size (by rw [HV.out.2.2.2.2.2.1];omega) (fun e=>by have:=(HV.out.2.2.2.2.2.2.lt _ e.symm).2;omega))).trans (by simp [World.cell?,HV.out.2.2.2.2.1]);have O1:=hide hown;clear hown hgr)
          go_roundw
          case rel=>
           refine ⟨(i+sg.size),m,false,L++[⟨4,sg,i⟩],by omega,by omega,by simp;omega,rfl,rfl,HB5,?_,HS3⟩
           show World.ownsRow _ _ _ _ _ _ _
           rw [toks_app,List.length_append]
           exact O1.out
          case measure=>simp [intOf];omega
     ·have hjt':¬ (j:Int)<t.size:=by omega
      have HTo:Hid (rowEnd t i=j):=by show _=_;rw [HE.out,show t.size - j=0 by omega];rfl
      clear HE
      have hsl:(0:Int)≤i∧(i:Int)≤t.size:=by omega
      have hsl2:(i:Int)≤j∧(j:Int)≤t.size:=by omega
      have hsg:=fun w'=>sign_any (t.extract i t.size) w' (by rw [ByteArray.size_extract];omega)
      have hle:=fun w'=>letter_any t[i].toNat w' hb8
      have hdi:=fun w'=>digit_any t[i].toNat w' hb8
      have hsgl:=signFrom_le (t.extract i t.size) 20 0
      rw [ByteArray.size_extract] at hsgl
      have HSg:Hid (signOf (t.extract i t.size)=signFrom (t.extract i t.size) 0 20):=rfl
      obtain ⟨sg,hsge⟩:∃ sg,sg=signOf (t.extract i t.size):=⟨_,rfl⟩
      rw [← HSg.out,← hsge] at hsgl
      rw [← hsge] at hsg
      have hji:IntKind.i64.wrap ((j:Int) - i)=((j - i:Nat):Int):=by rw [IntKind.wrap_i64];omega
      have HLook:Hid (look t i=if letB t[i].toNat then ⟨if 16<j - i then 1 else 0,1,t.extract i j,j⟩ else if digB t[i].toNat then ⟨rowCode (t.extract i j),if isL (t.extract i j) then 3 else 2,rowText (t.extract i j),j⟩ else ⟨if sg.size=0 then 2 else 0,4,sg,i+sg.size⟩):=by
       show _=_
       unfold look
       rw [HTo.out,HBi.out,← hsge]
      have HGe:=hide hsge
      clear hsge
      go_wp2_with fail
      go_at_call 23
      refine (hsg _).mono ?_
      rintro e w2 ⟨rfl,hb2'⟩
      have HB2:Hid (Below W.heap.size W w2):=HB.out.trans (hb2'.mono HB.out.size)
      obtain ⟨qx2,qf2⟩:=HQ.out w2 HB2.out
      have hsz2:w.heap.size<w2.heap.size:=by have:=HB2.out.size;rw [HZ.out] at this;omega
      have hsz3:wr.heap.size≤w2.heap.size:=hb2'.size
      have hgt:insB t[i].toNat=true→i<j:=fun h=>by
       have:=rowEnd_gt hlt (by rw [HBi.out];exact h)
       rw [HTo.out] at this
       exact this
      have HGt:=hide hgt
      clear hgt
      cases hLe:letB t[i].toNat with
      | true=>
       rw [hLe] at hle
       have hij2:i<j:=HGt.out (let_ins hLe)
       by_cases h16:16<j - i
       ·have h16':(16:Int)<((j - i:Nat):Int):=by omega
        have HLk:Hid (look t i=⟨1,1,t.extract i j,j⟩):=by show _=_;rw [HLook.out,hLe,if_pos rfl,if_pos h16]
        go_wp2_with fail
        go_at_call 24
        refine (hle _).mono ?_
        rintro e w3 ⟨rfl,rfl⟩
        obtain rfl:R=([],1,i):=by rw [HS2.out,HLk.out];rfl
        go_wp2_with fail
        refine bodyPost_ret (v:=.tuple #[.slice none 0 0,.agg #[.int .i64 1,.int .i64 i]]) (by simp [results,Tryz.results13,go_sem,qx2,qf2,hsz2]) rfl ?_
        refine ⟨_,rfl,⟨rfl,Or.inl ⟨rfl,rfl⟩⟩,?_⟩
        have hBw:=HW.out _ HB2.out
        exact ((hBw.setCell (Nat.le_refl _) _).setCell (Nat.le_refl _) _).alloc (by simp only [World.setCell,Array.size_modify];omega) _
       ·have h16':¬ (16:Int)<((j - i:Nat):Int):=by omega
        have HLk:Hid (look t i=⟨0,1,t.extract i j,j⟩):=by show _=_;rw [HLook.out,hLe,if_pos rfl,if_neg h16]
        go_wp2_with fail
        go_at_call 24
        refine (hle _).mono ?_
        rintro e w3 ⟨rfl,rfl⟩
        have HS3:Hid (R=scanN t m j false (L++[⟨1,(t.extract i j),i⟩])):=by show _=_;rw [HS2.out,HLk.out];rfl
        have hBV:Below w2.heap.size w2 ((w2.alloc (.cells #[.int .i64 1,.string (t.extract i j),.int .i64 i] 44)).alloc (.cells #[.int .i64 1,.string (t.extract i j),.int .i64 i] 44)):=((Below.refl _ _).alloc (Nat.le_refl _) _).alloc (by simp) _
        have hq1:((w2.alloc (.cells #[.int .i64 1,.string (t.extract i j),.int .i64 i] 44)).alloc (.cells #[.int .i64 1,.string (t.extract i j),.int .i64 i] 44)).heap[w2.heap.size+1]?=some (.cells #[.int .i64 1,.string (t.extract i j),.int .i64 i] 44 (0,0)):=by
         have:=heap_alloc_new (w2.alloc (.cells #[.int .i64 1,.string (t.extract i j),.int .i64 i] 44)) (.cells #[.int .i64 1,.string (t.extract i j),.int .i64 i] 44)
         simpa using this
        have hq2:((w2.alloc (.cells #[.int .i64 1,.string (t.extract i j),.int .i64 i] 44)).alloc (.cells #[.int .i64 1,.string (t.extract i j),.int .i64 i] 44)).heap[w2.heap.size]?=some (.cells #[.int .i64 1,.string (t.extract i j),.int .i64 i] 44 (0,0)):=(Below.heap_alloc _ _ _ (by simp)).trans (heap_alloc_new w2 _)
        have hszV:((w2.alloc (.cells #[.int .i64 1,.string (t.extract i j),.int .i64 i] 44)).alloc (.cells #[.int .i64 1,.string (t.extract i j),.int .i64 i] 44)).heap.size=w2.heap.size+1+1:=by simp
        have HV:=hide (And.intro (own_below HO.out (hb2'.trans (hBV.mono hb2'.size))) (And.intro hq1 (And.intro (show W.heap.size≤((w2.alloc (.cells #[.int .i64 1,.string (t.extract i j),.int .i64 i] 44)).alloc (.cells #[.int .i64 1,.string (t.extract i j),.int .i64 i] 44)).heap.size from Nat.le_trans HB2.out.size hBV.size) (And.intro (HB2.out.trans (hBV.mono HB2.out.size)) (And.intro hq2 (And.intro hszV HO.out))))))
        clear hBV hq1 hq2 hszV
        go_wp2_with (at_builtin;refine list_tok _ _ rfl rfl W.heap.size u4 L.length (toks L) ?e1 ?e2 (w2.heap.size+1) ⟨1,(t.extract i j),i⟩ ?e3 ?e4 (by omega) ?e5 ?_;(case e1=>rfl);(case e2=>exact HV.out.1);(case e3=>rfl);(case e4=>exact HV.out.2.1);(case e5=>exact HV.out.2.2.1);intro g cap w5 hown hgr;have HB5:Hid (Below W.heap.size W w5):=HV.out.2.2.2.1.grown hgr HV.out.2.2.1 (fun i hi=>(HV.out.1.lt i hi).1);have hc5:∀ o,w5.cell? ⟨w2.heap.size,o,none⟩=(#[Value.int .i64 1,.string (t.extract i j),.int .i64 i])[o]?:=fun o=>(World.cell?_of_block (a:=⟨w2.heap.size,o,none⟩) (hgr.block w2.heap.size (by rw [HV.out.2.2.2.2.2.1];omega) (fun e=>by have:=(HV.out.2.2.2.2.2.2.lt _ e.symm).2;omega))).trans (by simp [World.cell?,HV.out.2.2.2.2.1]);have O1:=hide hown;clear hown hgr)
        go_roundw
        case rel=>
         refine ⟨j,m,false,L++[⟨1,(t.extract i j),i⟩],by omega,by omega,by simp;omega,rfl,rfl,HB5,?_,HS3⟩
         show World.ownsRow _ _ _ _ _ _ _
         rw [toks_app,List.length_append]
         exact O1.out
        case measure=>simp [intOf];omega
      | false=>
       rw [hLe] at hle
       cases hDi:digB t[i].toNat with
       | true=>
        rw [hDi] at hdi
        have hij2:i<j:=HGt.out (dig_ins hDi)
        have hes:(t.extract i j).size=j - i:=by rw [ByteArray.size_extract];omega
        have hrow:=fun w'=>row_any (t.extract i j) w' (by omega) (by omega)
        obtain ⟨rc,hrc⟩:∃ rc,rc=rowCode (t.extract i j):=⟨_,rfl⟩
        have hLkd:look t i=⟨rc,if isL (t.extract i j) then 3 else 2,rowText (t.extract i j),j⟩:=by rw [HLook.out,hLe,hDi,if_neg (by decide),if_pos rfl,hrc]
        rw [← hrc] at hrow
        have HBv:Hid (Below W.heap.size W (w2.alloc (.cells #[.int .i64 4,.string sg,.int .i64 0] 44))):=HB2.out.alloc HB2.out.size _
        by_cases rz:rc=0
        ·subst rz
         obtain ⟨kd,hkd⟩:∃ kd:Int,kd=if isL (t.extract i j) then 3 else 2:=⟨_,rfl⟩
         obtain ⟨tx,htx⟩:∃ tx,tx=rowText (t.extract i j):=⟨_,rfl⟩
         have htk:rowTok (t.extract i j)=#[.int .i64 kd,.string tx,.int .i64 0]:=by unfold rowTok;rw [← hrc,if_pos rfl,hkd,htx]
         rw [htk] at hrow
         have HLk:Hid (look t i=⟨0,kd,tx,j⟩):=by show _=_;rw [hLkd,hkd,htx]
         have k4:(kd == 4)=false:=by rw [hkd];split<;>rfl
         have k4':¬ kd=4:=by simpa using k4
         have HH:=hide (And.intro hrc (And.intro htk (And.intro hkd htx)))
         clear hrc htk hLkd hkd htx
         go_wp2_with fail
         go_at_call 24
         refine (hle _).mono ?_
         rintro e w3 ⟨rfl,rfl⟩
         go_wp2_with fail
         go_at_call 25
         refine (hdi _).mono ?_
         rintro e w3 ⟨rfl,rfl⟩
         go_wp2_with fail
         go_at_call 26
         refine (hrow _).mono ?_
         rintro e w3 ⟨rfl,hb3⟩
         have HB3:Hid (Below W.heap.size W w3):=HBv.out.trans (hb3.mono HBv.out.size)
         obtain ⟨qx3,qf3⟩:=HQ.out w3 HB3.out
         have y3:∀ o,w3.cell? ⟨w2.heap.size,o,none⟩=(#[Value.int .i64 4,.string sg,.int .i64 0])[o]?:=fun o=>(hb3.cell (p:=⟨w2.heap.size,o,none⟩) (by simp)).trans (World.cell?_alloc_at _ _ _ _ rfl)
         have fy3:∀ o,w3.frozen? ⟨w2.heap.size,o,none⟩=false:=fun o=>(hb3.frozen (p:=⟨w2.heap.size,o,none⟩) (by simp)).trans (by have hh:=heap_alloc_new w2 (.cells #[.int .i64 4,.string sg,.int .i64 0] 44);simp only [World.frozen?,hh];rfl)
         have hne3:w2.heap.size≠w.heap.size:=by omega
         have hq3:w2.heap.size<w3.heap.size:=by have:=hb3.size;simp at this;omega
         have HS3:Hid (R=scanN t m j false (L++[⟨kd,tx,i⟩])):=by show _=_;rw [HS2.out,HLk.out];rfl
         have hWq:W.heap.size≤w2.heap.size:=HB2.out.size
         have hX0:Below wr.heap.size wr w3:=(hb2'.alloc hsz3 _).trans (hb3.mono (by simp;omega))
         have hX1:Below wr.heap.size wr ((((w3.setCell ⟨w2.heap.size,0,none⟩ (.int .i64 kd)).setCell ⟨w2.heap.size,1,none⟩ (.string tx)).setCell ⟨w2.heap.size,2,none⟩ (.int .i64 0)).setCell ⟨w2.heap.size,2,none⟩ (.int .i64 i)):=(((hX0.setCell (show wr.heap.size≤w2.heap.size from hsz3) _).setCell (show wr.heap.size≤w2.heap.size from hsz3) _).setCell (show wr.heap.size≤w2.heap.size from hsz3) _).setCell (show wr.heap.size≤w2.heap.size from hsz3) _
         have hX2:Below W.heap.size W ((((w3.setCell ⟨w2.heap.size,0,none⟩ (.int .i64 kd)).setCell ⟨w2.heap.size,1,none⟩ (.string tx)).setCell ⟨w2.heap.size,2,none⟩ (.int .i64 0)).setCell ⟨w2.heap.size,2,none⟩ (.int .i64 i)):=(((HB3.out.setCell (show W.heap.size≤w2.heap.size from hWq) _).setCell (show W.heap.size≤w2.heap.size from hWq) _).setCell (show W.heap.size≤w2.heap.size from hWq) _).setCell (show W.heap.size≤w2.heap.size from hWq) _
         have hXs:((((w3.setCell ⟨w2.heap.size,0,none⟩ (.int .i64 kd)).setCell ⟨w2.heap.size,1,none⟩ (.string tx)).setCell ⟨w2.heap.size,2,none⟩ (.int .i64 0)).setCell ⟨w2.heap.size,2,none⟩ (.int .i64 i)).heap.size=w3.heap.size:=by simp only [World.setCell,Array.size_modify]
         have hXk:((((w3.setCell ⟨w2.heap.size,0,none⟩ (.int .i64 kd)).setCell ⟨w2.heap.size,1,none⟩ (.string tx)).setCell ⟨w2.heap.size,2,none⟩ (.int .i64 0)).setCell ⟨w2.heap.size,2,none⟩ (.int .i64 i)).cell? ⟨w2.heap.size,0,none⟩=some (.int .i64 kd):=((set_off _ _ _ _ _ (by omega)).trans ((set_off _ _ _ _ _ (by omega)).trans (set_off _ _ _ _ _ (by omega)))).trans (World.cell?_setCell_same w3 ⟨w2.heap.size,0,none⟩ _ (y3 0))
         have hX2v:((((w3.setCell ⟨w2.heap.size,0,none⟩ (.int .i64 kd)).setCell ⟨w2.heap.size,1,none⟩ (.string tx)).setCell ⟨w2.heap.size,2,none⟩ (.int .i64 0)).setCell ⟨w2.heap.size,2,none⟩ (.int .i64 i)).cell? ⟨w2.heap.size,2,none⟩=some (.int .i64 i):=World.cell?_setCell_same _ ⟨w2.heap.size,2,none⟩ _ (World.cell?_setCell_same _ ⟨w2.heap.size,2,none⟩ _ ((set_off _ _ _ _ _ (by omega)).trans ((set_off _ _ _ _ _ (by omega)).trans (y3 2))))
         have hX1v:((((w3.setCell ⟨w2.heap.size,0,none⟩ (.int .i64 kd)).setCell ⟨w2.heap.size,1,none⟩ (.string tx)).setCell ⟨w2.heap.size,2,none⟩ (.int .i64 0)).setCell ⟨w2.heap.size,2,none⟩ (.int .i64 i)).cell? ⟨w2.heap.size,1,none⟩=some (.string tx):=((set_off _ _ _ _ _ (by omega)).trans (set_off _ _ _ _ _ (by omega))).trans (World.cell?_setCell_same _ ⟨w2.heap.size,1,none⟩ _ ((set_off _ _ _ _ _ (by omega)).trans (y3 1)))
         have hV1:(((((w3.setCell ⟨w2.heap.size,0,none⟩ (.int .i64 kd)).setCell ⟨w2.heap.size,1,none⟩ (.string tx)).setCell ⟨w2.heap.size,2,none⟩ (.int .i64 0)).setCell ⟨w2.heap.size,2,none⟩ (.int .i64 i)).alloc (.cells #[.int .i64 kd,.string tx,.int .i64 i] 44)).heap[w3.heap.size]?=some (.cells #[.int .i64 kd,.string tx,.int .i64 i] 44 (0,0)):=by rw [← hXs];exact heap_alloc_new _ _
         have hVs:(((((w3.setCell ⟨w2.heap.size,0,none⟩ (.int .i64 kd)).setCell ⟨w2.heap.size,1,none⟩ (.string tx)).setCell ⟨w2.heap.size,2,none⟩ (.int .i64 0)).setCell ⟨w2.heap.size,2,none⟩ (.int .i64 i)).alloc (.cells #[.int .i64 kd,.string tx,.int .i64 i] 44)).heap.size=w3.heap.size+1:=by rw [World.size_alloc,hXs]
         have hVk:(((((w3.setCell ⟨w2.heap.size,0,none⟩ (.int .i64 kd)).setCell ⟨w2.heap.size,1,none⟩ (.string tx)).setCell ⟨w2.heap.size,2,none⟩ (.int .i64 0)).setCell ⟨w2.heap.size,2,none⟩ (.int .i64 i)).alloc (.cells #[.int .i64 kd,.string tx,.int .i64 i] 44)).cell? ⟨w2.heap.size,0,none⟩=some (.int .i64 kd):=(World.cell?_alloc_past _ _ _ (by rw [hXs];exact hq3)).trans hXk
         have HV:=hide (And.intro (own_below HO.out (hX1.alloc (by rw [hXs];omega) (.cells #[.int .i64 kd,.string tx,.int .i64 i] 44))) (And.intro hV1 (And.intro (show W.heap.size≤(((((w3.setCell ⟨w2.heap.size,0,none⟩ (.int .i64 kd)).setCell ⟨w2.heap.size,1,none⟩ (.string tx)).setCell ⟨w2.heap.size,2,none⟩ (.int .i64 0)).setCell ⟨w2.heap.size,2,none⟩ (.int .i64 i)).alloc (.cells #[.int .i64 kd,.string tx,.int .i64 i] 44)).heap.size by rw [hVs];omega) (And.intro (hX2.alloc (by rw [hXs];omega) (.cells #[.int .i64 kd,.string tx,.int .i64 i] 44)) (And.intro hVk (And.intro hVs HO.out))))))
         clear hX0 hX1 hX2 hV1 hVs hVk hb3 hWq
         go_wp2_with (at_builtin;refine list_tok _ _ rfl rfl W.heap.size u4 L.length (toks L) ?e1 ?e2 w3.heap.size ⟨kd,tx,i⟩ ?e3 ?e4 (by omega) ?e5 ?_;(case e1=>rfl);(case e2=>exact HV.out.1);(case e3=>rfl);(case e4=>exact HV.out.2.1);(case e5=>exact HV.out.2.2.1);intro g cap w5 hown hgr;have HB5:Hid (Below W.heap.size W w5):=HV.out.2.2.2.1.grown hgr HV.out.2.2.1 (fun i hi=>(HV.out.1.lt i hi).1);have hc5:w5.cell? ⟨w2.heap.size,0,none⟩=some (.int .i64 kd):=(World.cell?_of_block (a:=⟨w2.heap.size,0,none⟩) (hgr.block w2.heap.size (by rw [HV.out.2.2.2.2.2.1];omega) (fun e=>by have:=(HV.out.2.2.2.2.2.2.lt _ e.symm).2;omega))).trans HV.out.2.2.2.2.1;have O1:=hide hown;clear hown hgr)
         go_roundw
         case rel=>
          refine ⟨j,m,false,L++[⟨kd,tx,i⟩],by omega,by omega,by simp;omega,rfl,rfl,HB5,?_,HS3⟩
          show World.ownsRow _ _ _ _ _ _ _
          rw [toks_app,List.length_append]
          exact O1.out
         case measure=>simp [intOf];omega
        ·have rz':(rc == 0)=false:=by simpa using rz
         have rz2:(rc != 0)=true:=by simpa using rz
         have htk:rowTok (t.extract i j)=#[.int .i64 0,.string ⟨#[]⟩,.int .i64 0]:=by unfold rowTok;rw [← hrc,if_neg rz]
         rw [htk] at hrow
         have HLk:Hid (look t i=⟨rc,if isL (t.extract i j) then 3 else 2,rowText (t.extract i j),j⟩):=hLkd
         obtain rfl:R=([],rc,i):=by rw [HS2.out,HLk.out];exact if_neg rz
         have HH:=hide (And.intro hrc (And.intro rz htk))
         clear hrc rz htk hLkd
         go_wp2_with fail
         go_at_call 24
         refine (hle _).mono ?_
         rintro e w3 ⟨rfl,rfl⟩
         go_wp2_with fail
         go_at_call 25
         refine (hdi _).mono ?_
         rintro e w3 ⟨rfl,rfl⟩
         go_wp2_with fail
         go_at_call 26
         refine (hrow _).mono ?_
         rintro e w3 ⟨rfl,hb3⟩
         have HB3:Hid (Below W.heap.size W w3):=HBv.out.trans (hb3.mono HBv.out.size)
         obtain ⟨qx3,qf3⟩:=HQ.out w3 HB3.out
         have y3:∀ o,w3.cell? ⟨w2.heap.size,o,none⟩=(#[Value.int .i64 4,.string sg,.int .i64 0])[o]?:=fun o=>(hb3.cell (p:=⟨w2.heap.size,o,none⟩) (by simp)).trans (World.cell?_alloc_at _ _ _ _ rfl)
         have fy3:∀ o,w3.frozen? ⟨w2.heap.size,o,none⟩=false:=fun o=>(hb3.frozen (p:=⟨w2.heap.size,o,none⟩) (by simp)).trans (by have hh:=heap_alloc_new w2 (.cells #[.int .i64 4,.string sg,.int .i64 0] 44);simp only [World.frozen?,hh];rfl)
         have hne3:w2.heap.size≠w.heap.size:=by omega
         clear hb3
         go_wp2_with fail
         refine bodyPost_ret (v:=.tuple #[.slice none 0 0,.agg #[.int .i64 rc,.int .i64 i]]) (by simp [results,Tryz.results13,go_sem,qx3,qf3,y3,hne3]) rfl ?_
         refine ⟨_,rfl,⟨rfl,Or.inl ⟨rfl,rfl⟩⟩,?_⟩
         have hle2:w.heap.size≤w2.heap.size:=by omega
         exact (((((HW.out _ HB3.out).setCell (show w.heap.size≤w2.heap.size from hle2) _).setCell (show w.heap.size≤w2.heap.size from hle2) _).setCell (show w.heap.size≤w2.heap.size from hle2) _).setCell (Nat.le_refl _) _).setCell (Nat.le_refl _) _
       | false=>
        rw [hDi] at hdi
        by_cases sz:sg.size=0
        ·have HLk:Hid (look t i=⟨2,4,sg,i+sg.size⟩):=by show _=_;rw [HLook.out,hLe,hDi,if_neg (by decide),if_neg (by decide),if_pos sz]
         have se:(sg.toList == [])=true:=by
          rw [ByteArray.toList_eq]
          have:sg.data.toList.length=0:=sz
          rw [List.length_eq_zero_iff.1 this]
          rfl
         have HH:=hide sz
         clear sz
         go_wp2_with fail
         go_at_call 24
         refine (hle _).mono ?_
         rintro e w3 ⟨rfl,rfl⟩
         go_wp2_with fail
         go_at_call 25
         refine (hdi _).mono ?_
         rintro e w3 ⟨rfl,rfl⟩
         obtain rfl:R=([],2,i):=by rw [HS2.out,HLk.out];rfl
         go_wp2_with fail
         refine bodyPost_ret (v:=.tuple #[.slice none 0 0,.agg #[.int .i64 2,.int .i64 i]]) (by simp [results,Tryz.results13,go_sem,qx2,qf2,hsz2]) rfl ?_
         refine ⟨_,rfl,⟨rfl,Or.inl ⟨rfl,rfl⟩⟩,?_⟩
         have hBw:=HW.out _ HB2.out
         exact ((hBw.setCell (Nat.le_refl _) _).setCell (Nat.le_refl _) _).alloc (by simp only [World.setCell,Array.size_modify];omega) _
        ·have HLk:Hid (look t i=⟨0,4,sg,i+sg.size⟩):=by show _=_;rw [HLook.out,hLe,hDi,if_neg (by decide),if_neg (by decide),if_neg sz]
         have se:(sg.toList == [])=false:=by
          rw [ByteArray.toList_eq,beq_eq_false_iff_ne]
          intro e
          exact sz (show sg.data.toList.length=0 by rw [e];rfl)
         have se2:¬ sg.toList=[]:=by simpa using se
         have hwz:IntKind.i64.wrap ((i:Int)+sg.size)=((i+sg.size:Nat):Int):=by rw [IntKind.wrap_i64];omega
         go_wp2_with fail
         go_at_call 24
         refine (hle _).mono ?_
         rintro e w3 ⟨rfl,rfl⟩
         go_wp2_with fail
         go_at_call 25
         refine (hdi _).mono ?_
         rintro e w3 ⟨rfl,rfl⟩
         have HS3:Hid (R=scanN t m (i+sg.size) false (L++[⟨4,sg,i⟩])):=by show _=_;rw [HS2.out,HLk.out];rfl
         have hBV:Below w2.heap.size w2 ((w2.alloc (.cells #[.int .i64 4,.string sg,.int .i64 i] 44)).alloc (.cells #[.int .i64 4,.string sg,.int .i64 i] 44)):=((Below.refl _ _).alloc (Nat.le_refl _) _).alloc (by simp) _
         have hq1:((w2.alloc (.cells #[.int .i64 4,.string sg,.int .i64 i] 44)).alloc (.cells #[.int .i64 4,.string sg,.int .i64 i] 44)).heap[w2.heap.size+1]?=some (.cells #[.int .i64 4,.string sg,.int .i64 i] 44 (0,0)):=by
          have:=heap_alloc_new (w2.alloc (.cells #[.int .i64 4,.string sg,.int .i64 i] 44)) (.cells #[.int .i64 4,.string sg,.int .i64 i] 44)
          simpa using this
         have hq2:((w2.alloc (.cells #[.int .i64 4,.string sg,.int .i64 i] 44)).alloc (.cells #[.int .i64 4,.string sg,.int .i64 i] 44)).heap[w2.heap.size]?=some (.cells #[.int .i64 4,.string sg,.int .i64 i] 44 (0,0)):=(Below.heap_alloc _ _ _ (by simp)).trans (heap_alloc_new w2 _)
         have hszV:((w2.alloc (.cells #[.int .i64 4,.string sg,.int .i64 i] 44)).alloc (.cells #[.int .i64 4,.string sg,.int .i64 i] 44)).heap.size=w2.heap.size+1+1:=by simp
         have HV:=hide (And.intro (own_below HO.out (hb2'.trans (hBV.mono hb2'.size))) (And.intro hq1 (And.intro (show W.heap.size≤((w2.alloc (.cells #[.int .i64 4,.string sg,.int .i64 i] 44)).alloc (.cells #[.int .i64 4,.string sg,.int .i64 i] 44)).heap.size from Nat.le_trans HB2.out.size hBV.size) (And.intro (HB2.out.trans (hBV.mono HB2.out.size)) (And.intro hq2 (And.intro hszV HO.out))))))
         clear hBV hq1 hq2 hszV
         go_wp2_with (at_builtin;refine list_tok _ _ rfl rfl W.heap.size u4 L.length (toks L) ?e1 ?e2 (w2.heap.size+1) ⟨4,sg,i⟩ ?e3 ?e4 (by omega) ?e5 ?_;(case e1=>rfl);(case e2=>exact HV.out.1);(case e3=>rfl);(case e4=>exact HV.out.2.1);(case e5=>exact HV.out.2.2.1);intro g cap w5 hown hgr;have HB5:Hid (Below W.heap.size W w5):=HV.out.2.2.2.1.grown hgr HV.out.2.2.1 (fun i hi=>(HV.out.1.lt i hi).1);have hc5:∀ o,w5.cell? ⟨w2.heap.size,o,none⟩=(#[Value.int .i64 4,.string sg,.int .i64 i])[o]?:=fun o=>(World.cell?_of_block (a:=⟨w2.heap.size,o,none⟩) (hgr.block w2.heap.size (by rw [HV.out.2.2.2.2.2.1];omega) (fun e=>by have:=(HV.out.2.2.2.2.2.2.lt _ e.symm).2;omega))).trans (by simp [World.cell?,HV.out.2.2.2.2.1]);have O1:=hide hown;clear hown hgr)
         go_roundw
         case rel=>
          refine ⟨(i+sg.size),m,false,L++[⟨4,sg,i⟩],by omega,by omega,by simp;omega,rfl,rfl,HB5,?_,HS3⟩
          show World.ownsRow _ _ _ _ _ _ _
          rw [toks_app,List.length_append]
          exact O1.out
         case measure=>simp [intOf];omega
  ·have hlt':¬ (i:Int)<t.size:=by omega
   have hr:R=(L,0,0):=by
    rw [HS.out]
    cases n with
    | zero=>rfl
    | succ n=>rw [scanN_succ,if_neg hlt]
   subst hr
   go_wp2_with fail
   refine bodyPost_ret (v:=.tuple #[u4,.agg #[.int .i64 0,.int .i64 0]]) (by simp [results,Tryz.results13,go_sem,qx]) rfl ?_
   refine ⟨u4,rfl,?_,?_⟩
   ·have h0:=own_base HO.out (show w.heap.size≤W.heap.size by rw [HZ.out];omega)
    exact ownsRow_setCell_below (ownsRow_setCell_below HO.out (by show w.heap.size<_;rw [HZ.out];omega) _) (by show w.heap.size<_;rw [HZ.out];omega) _ |> fun h=>own_base h (by rw [HZ.out];omega)
   ·exact ((HW.out _ HB.out).setCell (Nat.le_refl _) _).setCell (Nat.le_refl _) _
end Go.Proofs.YthcfianhdkolhaaGreatDoor.X
