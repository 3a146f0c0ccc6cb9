/- PbB PbC PbD -/
import Derived.Test.YthcfianhdkolhaaGreatDoorPbA
import Derived.Test.YthcfianhdkolhaaGreatDoorSign
import Derived.Laws.OwnMore
namespace Go.Proofs.YthcfianhdkolhaaGreatDoor.Y
open Go.RowKit Go.Proofs.YthcfianhdkolhaaGreatDoor.X Go.Proofs.YthcfianhdkolhaaGreatDoor.T Go.Proofs.YthcfianhdkolhaaGreatDoor.S
set_option linter.unusedVariables false
set_option linter.unusedSimpArgs false
variable {w w' : World} {b g : Nat} {m : Value} {ts : List Tok} {t : Tok}
def Meth (F:Nat) (q:G) (b g:Nat) (m:Value) (ts:List Tok):Prop:=∀ w:World,Ps w b g m ts→Two w b m→Og w→g<w.heap.size→Fits ts→ts.length≤4000→Calls Tryz.prog F #[.pointer (some ⟨b,0,none⟩)] w (PostN q w b g m ts)
def Later (F:Nat) (q:G) (b g:Nat) (m:Value) (ts:List Tok):Prop:=∀ r,r <:+ ts→r.length<ts.length→Meth F q b g m r
theorem Later.suf {F:Nat} {q:G} {r:List Tok} (h:Later F q b g m ts) (hr:r <:+ ts):Later F q b g m r:=fun s h1 h2=>h s (h1.trans hr) (Nat.lt_of_lt_of_le h2 hr.length_le)
theorem tail_lt {x:ByteArray} (hx:x.size≠0) (h:tx ts=x):ts.tail.length<ts.length:=by
 obtain ⟨t,r,rfl⟩:=tx_len ts x hx h
 simp
theorem nm_lt (h:nmAt ts 0=true):ts.tail.length<ts.length:=by
 cases ts with
 | nil=>simp [nmAt] at h
 | cons t r=>simp
theorem nm_one (ts:List Tok):nmAt ts 1=nmAt ts.tail 0:=by
 cases ts with
 | nil=>rfl
 | cons t r=>rfl
theorem nm_str (h:Fits ts) (hn:nmAt ts 0=true):tx ts=str (hd (tk ts)):=by
 have e:=nm_hd h
 rw [hn] at e
 cases ts with
 | nil=>simp [nmAt] at hn
 | cons t r=>
  show t.text=str (Tk.txt ⟨t.kind,t.text.data.toList⟩)
  unfold Tk.txt
  by_cases hk:t.kind=2∨t.kind=3
  ·exfalso
   have e':nameB (hd (tk (t::r)))=false:=by
    show nameB (Tk.txt ⟨t.kind,t.text.data.toList⟩)=false
    unfold Tk.txt
    rw [if_pos hk]
    rfl
   rw [e'] at e
   cases e
  rw [if_neg hk]
  apply ByteArray.ext
  apply Array.toList_inj.1
  simp [str]
theorem both {g1 g2:G} {t1 t2:List Tk} {r1 r2:Res} (h:R g1 t1 r1) (k:R g2 t2 r2):∃ n,P n g1 t1=some r1∧P n g2 t2=some r2:=by
 obtain ⟨n,e1⟩:=h
 obtain ⟨m,e2⟩:=k
 exact ⟨max n m,P_le (Nat.le_max_left n m) e1,P_le (Nat.le_max_right n m) e2⟩
theorem three {g1 g2 g3:G} {t1 t2 t3:List Tk} {r1 r2 r3:Res} (h:R g1 t1 r1) (k:R g2 t2 r2) (l:R g3 t3 r3):∃ n,P n g1 t1=some r1∧P n g2 t2=some r2∧P n g3 t3=some r3:=by
 obtain ⟨n,e1,e2⟩:=both h k
 obtain ⟨m,e3⟩:=l
 exact ⟨max n m,P_le (Nat.le_max_left n m) e1,P_le (Nat.le_max_left n m) e2,P_le (Nat.le_max_right n m) e3⟩
theorem ask_new' (h:Ps w b g m ts) (q:Nat) (hq:w.heap.size=q) (x:ByteArray) (hx:x.size≠0):Calls Tryz.prog 94 #[.pointer (some ⟨b,0,none⟩),.slice (some ⟨q,0,none⟩) 1 1] (w.alloc (.cells #[.string x] 9)) (Ask1 w b g m ts x):=by
 subst hq
 exact ask_new h x hx
def leftOf (b:Nat) (w:World):Nat:=match w.cell? ⟨b,0,none⟩ with|some (.slice _ n _)=>n|_=>0
theorem Ps.leftOf (h:Ps w b g m ts):leftOf b w=ts.length:=by
 obtain ⟨a,o,c,h1,_⟩:=h.blk
 have e:w.cell? ⟨b,0,none⟩=some (.slice a ts.length c):=cells_at h1 0
 unfold Y.leftOf
 rw [e]
theorem opr_word:∀ j,j<10→Word (opr j).1∧sign (opr j).1=((opr j).2.2,(opr j).2.1):=fun j hj=>by
 have h:j=0∨j=1∨j=2∨j=3∨j=4∨j=5∨j=6∨j=7∨j=8∨j=9:=by omega
 rcases h with rfl|rfl|rfl|rfl|rfl|rfl|rfl|rfl|rfl|rfl<;>exact ⟨⟨_,_,rfl,by decide⟩,by decide⟩
theorem sign_hit {firm:Int} {j:Nat} (hF:Fits ts) (hj:j<10) (h:Hits ts firm j):sign (hd (tk ts))=(firm,(opr j).2.1)∧hd (tk ts)≠[]:=by
 obtain ⟨hw,hs⟩:=opr_word j hj
 have e:=(tx_hd hF (opr j).1 hw).1 h.2
 rw [e,hs,h.1]
 obtain ⟨c,r,e2,_⟩:=hw
 exact ⟨rfl,by rw [e2];simp⟩
theorem sign_none {firm:Int} (hF:Fits ts) (h0:0≤firm) (h:∀ j,j<10→¬ Hits ts firm j):¬ (sign (hd (tk ts))).1=firm:=by
 intro e
 have k:∀ j,j<10→hd (tk ts)=(opr j).1→False:=fun j hj e2=>by
  obtain ⟨hw,hs⟩:=opr_word j hj
  refine h j hj ⟨?_,(tx_hd hF (opr j).1 hw).2 e2⟩
  rw [e2,hs] at e
  exact e
 unfold sign at e
 split at e
 ·exact k 0 (by omega) (by assumption)
 split at e
 ·exact k 1 (by omega) (by assumption)
 split at e
 ·exact k 2 (by omega) (by assumption)
 split at e
 ·exact k 3 (by omega) (by assumption)
 split at e
 ·exact k 4 (by omega) (by assumption)
 split at e
 ·exact k 5 (by omega) (by assumption)
 split at e
 ·exact k 6 (by omega) (by assumption)
 split at e
 ·exact k 7 (by omega) (by assumption)
 split at e
 ·exact k 8 (by omega) (by assumption)
 split at e
 ·exact k 9 (by omega) (by assumption)
 have:(-1:Int)=firm:=e
 omega
theorem step_nd {w:World} {ops:Array Oper} {o:Oper} {a:Act} {K:Act→World→Prop} {Q:Exit→Act→World→Prop} {E:Prop} (p q:Operand) (hgd:o.guard=none)
  (ho:o.op=.call { callee:=.builtin .append,args:=#[p,q],argTypes:=#[22,22] })
  (A A':Nat→Prop) (v:Value) (l:List Nd) (hs:a.eval p=v) (hown:RowN w A v l)
  (B:Nat) (x:Nd) (k t n s:Value) (hx:a.eval q=.slice (some ⟨B,0,none⟩) 1 1) (hB:w.heap[B]?=some (.cells #[k,t,n,s] 24 (0,0))) (h1:k.oneCell'=true∧t.oneCell'=true∧n.oneCell'=true∧s.oneCell'=true) (hnd:NdV w (fun k=>A k∧some k≠v.ownBlock) x (.agg #[k,t,n,s]))
  (hn:l.length≤16000) (hA:∀ k,A k→A' k) (hA':A' w.heap.size)
  (h:∀ g cap w',RowN w' A' (.slice (some ⟨g,0,none⟩) (l.length+1) cap) (l++[x])→w.grownBy w' v.ownBlock→(v.ownBlock=some g∨g=w.heap.size)→g<w'.heap.size→K (a.put o.dst (.slice (some ⟨g,0,none⟩) (l.length+1) cap)) w'):
  if Region.wanted o (yielded ops a.tmps)=true then Oper.wp Tryz.prog o a w K Q else E:=by
 obtain ⟨i0,hi,hz0,hz1,hz2⟩:=info_parts info24
 obtain ⟨cs,c1,c2,c3⟩:=hown.row
 refine step_append_lies w hgd p q 22 ho 0 24 i0 _ 4 56 Tryz.underlying22 hi hz0 hz1 hz2 rfl (by decide) v l.length (cellsN cs) hs c2 ⟨B,0,none⟩ 1 1 [k,t,n,s] hx rfl (World.news_of_block hB) ?_ (by decide) (by unfold maxLen;omega) (by omega) (Nat.zero_le _) w.heap.size rfl ?_
 ·intro u hu
  simp at hu
  rcases hu with rfl|rfl|rfl|rfl
  ·exact h1.1
  ·exact h1.2.1
  ·exact h1.2.2.1
  exact h1.2.2.2
 intro g cap w' h2 h3 h4 h5
 refine h g cap w' (RowN.put c1 c3 hnd h2 h3 h4 hA ?_) h3 h4 h5
 rcases h4 with e|e
 ·exact hA _ (hown.own g e)
 rw [e];exact hA'
theorem app_list {w0 w:World} {ops:Array Oper} {rest:List Oper} {o:Oper} {a:Act} {Q:Exit→Act→World→Prop} (p q:Operand) (hgd:o.guard=none)
  (ho:o.op=.call { callee:=.builtin .append,args:=#[p,q],argTypes:=#[22,22] }) (L1 L2:List Bk) {B s0 s1:Nat} {k t n s v:Value} {l:List Nd} {x:Nd}
  (HW:Wd w0 w b g m ts (L1++(B,#[k,t,n,s],24)::L2)) (HM:RowN w (Av s0 (L1++(B,#[k,t,n,s],24)::L2)) v l) (HN:NdV w (Av s1 (L1++(B,#[k,t,n,s],24)::L2)) x (.agg #[k,t,n,s])) (hz:w0.heap.size≤s0) (hz1:w0.heap.size≤s1) (hk:∀ j,v.ownBlock=some j→j<s1) (hn:l.length≤16000) (h1:k.oneCell'=true∧t.oneCell'=true∧n.oneCell'=true∧s.oneCell'=true)
  (hs:a.eval p=v) (hx:a.eval q=.slice (some ⟨B,0,none⟩) 1 1)
  (h:∀ gg cap w',Wd w0 w' b g m ts (L1++L2)→RowN w' (Av w0.heap.size (L1++L2)) (.slice (some ⟨gg,0,none⟩) (l.length+1) cap) (l++[x])→w.grownBy w' v.ownBlock→wpList Tryz.prog ops Q rest (a.put o.dst (.slice (some ⟨gg,0,none⟩) (l.length+1) cap)) w'):
  wpList Tryz.prog ops Q (o::rest) a w:=by
 refine list_nd p q hgd ho (Av w0.heap.size (L1++(B,#[k,t,n,s],24)::L2)) (Av w0.heap.size (L1++(B,#[k,t,n,s],24)::L2)) v l hs (HM.less hz) B x k t n s hx (HW.blk (B,#[k,t,n,s],24) (by simp)).2 h1 (HN.mono (fun j hj _=>⟨⟨Nat.le_trans hz1 hj.1,hj.2⟩,fun e=>by have:=hk j e.symm;have:=hj.1;omega⟩)) hn (fun _ h=>h) ⟨HW.grown.size,fun y hy=>by have:=HW.lt y hy;omega⟩ ?_
 intro gg cap w' hR hG hat hlt
 exact h gg cap w' ((HW.rowed hG (Nat.le_refl _) (fun j hj=>(HM.less hz).own j hj)).drop L1 L2) ((Mv.drop L1 L2 w').row hR) hG
theorem app_step {w0 w:World} {ops:Array Oper} {o:Oper} {a:Act} {K:Act→World→Prop} {Q:Exit→Act→World→Prop} {E:Prop} (p q:Operand) (hgd:o.guard=none)
  (ho:o.op=.call { callee:=.builtin .append,args:=#[p,q],argTypes:=#[22,22] }) (L1 L2:List Bk) {B s0 s1:Nat} {k t n s v:Value} {l:List Nd} {x:Nd}
  (HW:Wd w0 w b g m ts (L1++(B,#[k,t,n,s],24)::L2)) (HM:RowN w (Av s0 (L1++(B,#[k,t,n,s],24)::L2)) v l) (HN:NdV w (Av s1 (L1++(B,#[k,t,n,s],24)::L2)) x (.agg #[k,t,n,s])) (hz:w0.heap.size≤s0) (hz1:w0.heap.size≤s1) (hk:∀ j,v.ownBlock=some j→j<s1) (hn:l.length≤16000) (h1:k.oneCell'=true∧t.oneCell'=true∧n.oneCell'=true∧s.oneCell'=true)
  (hs:a.eval p=v) (hx:a.eval q=.slice (some ⟨B,0,none⟩) 1 1)
  (h:∀ gg cap w',Wd w0 w' b g m ts (L1++L2)→RowN w' (Av w0.heap.size (L1++L2)) (.slice (some ⟨gg,0,none⟩) (l.length+1) cap) (l++[x])→w.grownBy w' v.ownBlock→K (a.put o.dst (.slice (some ⟨gg,0,none⟩) (l.length+1) cap)) w'):
  if Region.wanted o (yielded ops a.tmps)=true then Oper.wp Tryz.prog o a w K Q else E:=by
 refine step_nd p q hgd ho (Av w0.heap.size (L1++(B,#[k,t,n,s],24)::L2)) (Av w0.heap.size (L1++(B,#[k,t,n,s],24)::L2)) v l hs (HM.less hz) B x k t n s hx (HW.blk (B,#[k,t,n,s],24) (by simp)).2 h1 (HN.mono (fun j hj _=>⟨⟨Nat.le_trans hz1 hj.1,hj.2⟩,fun e=>by have:=hk j e.symm;have:=hj.1;omega⟩)) hn (fun _ h=>h) ⟨HW.grown.size,fun y hy=>by have:=HW.lt y hy;omega⟩ ?_
 intro gg cap w' hR hG hat hlt
 exact h gg cap w' ((HW.rowed hG (Nat.le_refl _) (fun j hj=>(HM.less hz).own j hj)).drop L1 L2) ((Mv.drop L1 L2 w').row hR) hG
theorem app_l0 {w0 w:World} {ops:Array Oper} {rest:List Oper} {o:Oper} {a:Act} {Q:Exit→Act→World→Prop} (p q:Operand) (hgd:o.guard=none)
  (ho:o.op=.call { callee:=.builtin .append,args:=#[p,q],argTypes:=#[22,22] }) {L:List Bk} {B s0 s1:Nat} {k t n s v:Value} {l:List Nd} {x:Nd}
  (HW:Wd w0 w b g m ts ((B,#[k,t,n,s],24)::L)) (HM:RowN w (Av s0 ((B,#[k,t,n,s],24)::L)) v l) (HN:NdV w (Av s1 ((B,#[k,t,n,s],24)::L)) x (.agg #[k,t,n,s])) (hz:w0.heap.size≤s0) (hz1:w0.heap.size≤s1) (hk:∀ j,v.ownBlock=some j→j<s1) (hn:l.length≤16000) (h1:k.oneCell'=true∧t.oneCell'=true∧n.oneCell'=true∧s.oneCell'=true)
  (hs:a.eval p=v) (hx:a.eval q=.slice (some ⟨B,0,none⟩) 1 1)
  (h:∀ gg cap w',Wd w0 w' b g m ts L→RowN w' (Av w0.heap.size L) (.slice (some ⟨gg,0,none⟩) (l.length+1) cap) (l++[x])→w.grownBy w' v.ownBlock→wpList Tryz.prog ops Q rest (a.put o.dst (.slice (some ⟨gg,0,none⟩) (l.length+1) cap)) w'):
  wpList Tryz.prog ops Q (o::rest) a w:=app_list p q hgd ho [] L HW HM HN hz hz1 hk hn h1 hs hx h
theorem app_s0 {w0 w:World} {ops:Array Oper} {o:Oper} {a:Act} {K:Act→World→Prop} {Q:Exit→Act→World→Prop} {E:Prop} (p q:Operand) (hgd:o.guard=none)
  (ho:o.op=.call { callee:=.builtin .append,args:=#[p,q],argTypes:=#[22,22] }) {L:List Bk} {B s0 s1:Nat} {k t n s v:Value} {l:List Nd} {x:Nd}
  (HW:Wd w0 w b g m ts ((B,#[k,t,n,s],24)::L)) (HM:RowN w (Av s0 ((B,#[k,t,n,s],24)::L)) v l) (HN:NdV w (Av s1 ((B,#[k,t,n,s],24)::L)) x (.agg #[k,t,n,s])) (hz:w0.heap.size≤s0) (hz1:w0.heap.size≤s1) (hk:∀ j,v.ownBlock=some j→j<s1) (hn:l.length≤16000) (h1:k.oneCell'=true∧t.oneCell'=true∧n.oneCell'=true∧s.oneCell'=true)
  (hs:a.eval p=v) (hx:a.eval q=.slice (some ⟨B,0,none⟩) 1 1)
  (h:∀ gg cap w',Wd w0 w' b g m ts L→RowN w' (Av w0.heap.size L) (.slice (some ⟨gg,0,none⟩) (l.length+1) cap) (l++[x])→w.grownBy w' v.ownBlock→K (a.put o.dst (.slice (some ⟨gg,0,none⟩) (l.length+1) cap)) w'):
  if Region.wanted o (yielded ops a.tmps)=true then Oper.wp Tryz.prog o a w K Q else E:=app_step p q hgd ho [] L HW HM HN hz hz1 hk hn h1 hs hx h
theorem Wd.okN {w0:World} {L:List Bk} {q:G} {ts0:List Tok} {e:Ending} (HW:Wd w0 w b g m ts L) (HS:ts <:+ ts0) (h:PostN q w b g m ts e w'):
  (∃ r n k t v a l c,e=.returned (.agg #[.int .i64 k,.string t,.int .i64 v,.slice a l c])∧Hid (R q (tk ts) (.ok (.nd n) (tk r)))∧Hid (NdV w' (Av w.heap.size L) n (.agg #[.int .i64 k,.string t,.int .i64 v,.slice a l c]))∧Hid (w0.heap.size≤w.heap.size)∧Hid (r.length<ts0.length)∧Hid (r <:+ ts)∧Hid (r.length<ts.length)∧Hid (r <:+ ts0)∧Hid (Wd w0 w' b g m r L)∧w.grownBy w' (some b)) ∨
  (∃ r,R q (tk ts) (.no (tk r))∧e=up r∧w0.grownBy w' (some b)∧r <:+ ts0):=by
 obtain ⟨hG,r,hr,⟨n,v,hlt,hR,rfl,hN,hP⟩|⟨hR,rfl⟩⟩:=h
 ·obtain ⟨k,t,v',a,l,c,rfl⟩:=hN.form
  exact Or.inl ⟨r,n,k,t,v',a,l,c,rfl,hR,hN.given HW,HW.grown.size,Nat.lt_of_lt_of_le hlt HS.length_le,hr,hlt,hr.trans HS,HW.call hG hP,hG⟩
 exact Or.inr ⟨r,hR,rfl,grown_trans HW.grown hG,hr.trans HS⟩
theorem Wd.tkY {w0:World} {L:List Bk} {ts0:List Tok} {x:ByteArray} (HW:Wd w0 w b g m ts L) (HS:ts <:+ ts0) (hz:x.size≠0) (hq:tx ts=x):Calls Tryz.prog 67 #[.pointer (some ⟨b,0,none⟩),.string x] w fun e w'=>e=.returned (.bool true)∧Hid (ts.tail.length<ts0.length)∧Hid (ts.tail.length<ts.length)∧Hid (ts.tail <:+ ts0)∧Hid (Wd w0 w' b g m ts.tail L)∧w.grownBy w' (some b):=
 (takes_any HW.ps x hz).mono fun e w' ⟨he,hP,hG⟩=>by
  rw [if_pos hq] at hP
  rw [decide_eq_true hq] at he
  exact ⟨he,Nat.lt_of_lt_of_le (tail_lt hz hq) HS.length_le,tail_lt hz hq,(List.tail_suffix _).trans HS,HW.call hG hP,hG⟩
theorem Wd.tkN {w0:World} {L:List Bk} {x:ByteArray} (HW:Wd w0 w b g m ts L) (hz:x.size≠0) (hq:¬ tx ts=x):Calls Tryz.prog 67 #[.pointer (some ⟨b,0,none⟩),.string x] w fun e w'=>e=.returned (.bool false)∧Hid (Wd w0 w' b g m ts L)∧w.grownBy w' (some b):=
 (takes_any HW.ps x hz).mono fun e w' ⟨he,hP,hG⟩=>by
  rw [if_neg hq] at hP
  rw [decide_eq_false hq] at he
  exact ⟨he,HW.call hG hP,hG⟩
theorem Wd.ask1 {w0:World} {L:List Bk} {ts0:List Tok} {s:List UInt8} {q:Nat} (HW:Wd w0 w b g m ts L) (HS:ts <:+ ts0) (HF:Fits ts0) (hw:Word s) (hz:(str s).size≠0) (hq:w.heap.size=q):Calls Tryz.prog 94 #[.pointer (some ⟨b,0,none⟩),.slice (some ⟨q,0,none⟩) 1 1] (w.alloc (.cells #[.string (str s)] 9)) fun e w'=>
  (Hid (hd (tk ts)=s)∧e=.returned (.tuple #[])∧Hid (ts.tail.length<ts0.length)∧Hid (ts.tail <:+ ts0)∧Hid (Wd w0 w' b g m ts.tail L)∧w.grownBy w' (some b))∨(¬ hd (tk ts)=s∧e=up ts∧w0.grownBy w' (some b)):=
 (ask_new' HW.ps q hq (str s) hz).mono fun e w' ⟨hG,h⟩=>by
  rcases h with ⟨hq,he,hP⟩|⟨hq,he⟩
  ·exact Or.inl ⟨(tx_hd (HF.suf HS) s hw).1 hq,he,Nat.lt_of_lt_of_le (tail_lt hz hq) HS.length_le,(List.tail_suffix _).trans HS,HW.call hG hP,hG⟩
  exact Or.inr ⟨fun e=>hq ((tx_hd (HF.suf HS) s hw).2 e),he,grown_trans HW.grown hG⟩
theorem Wd.nm {w0:World} {L:List Bk} {ts0:List Tok} (HW:Wd w0 w b g m ts L) (HS:ts <:+ ts0) (HF:Fits ts0):Calls Tryz.prog 93 #[.pointer (some ⟨b,0,none⟩)] w fun e w'=>
  (Hid (nameB (hd (tk ts))=true)∧e=.returned (.string (str (hd (tk ts))))∧Hid (ts.tail.length<ts0.length)∧Hid (ts.tail <:+ ts0)∧Hid (Wd w0 w' b g m ts.tail L)∧w.grownBy w' (some b))∨(nameB (hd (tk ts))=false∧e=up ts∧w0.grownBy w' (some b)):=
 (name_any HW.ps (HF.suf HS).short).mono fun e w' h=>by
  rcases h with ⟨hn,he,hP,hG⟩|⟨hn,he,rfl⟩
  ·rw [nm_str (HF.suf HS) hn] at he
   exact Or.inl ⟨(nm_hd (HF.suf HS)).symm.trans hn,he,Nat.lt_of_lt_of_le (nm_lt hn) HS.length_le,(List.tail_suffix _).trans HS,HW.call hG hP,hG⟩
  exact Or.inr ⟨(nm_hd (HF.suf HS)).symm.trans hn,he,HW.grown⟩
end Go.Proofs.YthcfianhdkolhaaGreatDoor.Y
namespace Go.Proofs.YthcfianhdkolhaaGreatDoor.Y
open Go.RowKit Go.Proofs.YthcfianhdkolhaaGreatDoor.X Go.Proofs.YthcfianhdkolhaaGreatDoor.T Go.Proofs.YthcfianhdkolhaaGreatDoor.S
set_option maxRecDepth 100000
set_option maxHeartbeats 2000000
set_option linter.unusedVariables false
set_option linter.unusedSimpArgs false
variable {w w' : World} {b g : Nat} {m : Value} {ts : List Tok} {t : Tok}
theorem r_bound0 {l:Nat} (hl:l≤2) {ts r:List Tk} (a:R (.bound (l+1)) ts (.no r)):R (.bound l) ts (.no r):=by
 obtain ⟨n,e⟩:=a
 exact ⟨n+1,by simp [P,F,show ¬ 2<l by omega,andN,e]⟩
theorem r_bound1 {l:Nat} (hl:l≤2) {ts r:List Tk} {x:Nd} {q:Res} (a:R (.bound (l+1)) ts (.ok (.nd x) r)) (k:R (.boundL l x) r q):R (.bound l) ts q:=by
 obtain ⟨n,e1,e2⟩:=both a k
 exact ⟨n+1,by simp [P,F,show ¬ 2<l by omega,andN,e1,e2]⟩
theorem r_bL0 {l:Nat} {x:Nd} {ts:List Tk} (h:¬ (sign (hd ts)).1=(l:Int)):R (.boundL l x) ts (.ok (.nd x) ts):=⟨1,by simp [P,F,h,okN]⟩
theorem r_bL1 {l:Nat} {x:Nd} {ts r:List Tk} {op:Int} (h:sign (hd ts)=((l:Int),op)) (a:R (.bound (l+1)) ts.tail (.no r)):R (.boundL l x) ts (.no r):=by
 obtain ⟨n,e⟩:=a
 exact ⟨n+1,by simp [P,F,h,andN,e]⟩
theorem r_bL2 {l:Nat} (hl:l≠0) {x y:Nd} {ts r:List Tk} {op:Int} {q:Res} (h:sign (hd ts)=((l:Int),op)) (a:R (.bound (l+1)) ts.tail (.ok (.nd y) r)) (k:R (.boundL l (.mk 32 [] op [x,y])) r q):R (.boundL l x) ts q:=by
 obtain ⟨n,e1,e2⟩:=both a k
 exact ⟨n+1,by simp [P,F,h,andN,e1,e2,hl]⟩
theorem r_bL3 {x y:Nd} {ts r:List Tk} {op:Int} (h:sign (hd ts)=(0,op)) (a:R (.bound 1) ts.tail (.ok (.nd y) r)):R (.boundL 0 x) ts (.ok (.nd (.mk 32 [] op [x,y])) r):=by
 obtain ⟨n,e1⟩:=a
 exact ⟨n+1,by simp [P,F,h,andN,e1,okN]⟩
theorem r_expr {ts:List Tk} {q:Res} (a:R (.bound 0) ts q):R .expr ts q:=by
 obtain ⟨n,e1⟩:=a
 exact ⟨n+1,by simp [P,F,e1]⟩
theorem r_b3 {ts:List Tk} {q:Res} (a:R .unary ts q):R (.bound 3) ts q:=by
 obtain ⟨n,e1⟩:=a
 exact ⟨n+1,by simp [P,F,e1]⟩
theorem row_sum (h:Ps w b g m ts) (hT:Two w b m) (hGl:Og w) (hb5:4<b) (hgl:g<w.heap.size) (hF:Fits ts) (hlen:ts.length≤4000) (hMe:Meth 164 (.bound 2) b g m ts) (hLt:Later 164 (.bound 2) b g m ts):Calls Tryz.prog 163 #[.pointer (some ⟨b,0,none⟩),.func (.func 164) #[.pointer (some ⟨b,0,none⟩)] #[],.int .i64 1] w (PostN (.bound 1) w b g m ts):=by
 have HW:Hid (Wd w w b g m ts []):=Wd.start h hT hGl hb5 hgl
 have HS:=su ts
 have HF:=ħ hF
 have HLn:=ħ hlen
 have HMe:=hide hMe
 have HLt:=hide hLt
 clear hMe hLt
 clear h hT hGl hgl hF hlen
 go_enter Tryz.func163,Tryz.ntmps163
 replace HW:=HW.out.az
 go_wp2_with fail
 generalize w.alloc _=w1 at *
 go_at_call 164
 refine (HMe.out w1 HW.out.ps HW.out.two HW.out.glo HW.out.glt (HF.out.suf HS.out) (Nat.le_trans HS.out.length_le HLn.out)).mono ?_
 rintro e w2 hp
 obtain ⟨r2,n_x,k_x,t_x,v_x,a_x,l_x,c_x,rfl,HR_x,HN_x,HZ_x,HL,HSx,HLs2,hS,hW,hG⟩|⟨r,hR,rfl,h1,h2⟩:=HW.out.okN HS.out hp
 rotate_left
 ·exact ⟨rfl,h1,_,h2,Or.inr ⟨r_bound0 (by omega) hR,rfl⟩⟩
 replace HW:=hW
 replace HS:=hS
 clear hG hp
 replace HW:=HW.out.an HN_x
 replace HN_x:=HW.out.nA HN_x
 go_wp2_with fail
 generalize w2.alloc _=w3 at *
 go_loopw [] (fun wr=>∃ (r:List Tok) (n:Nd) (k0:Int) (t0:ByteArray) (v0:Int) (a0:Option Addr) (l0 c0:Nat),Hid (Wd w wr b g m r [(w2.heap.size,#[.int .i64 k0,.string t0,.int .i64 v0,.slice a0 l0 c0],24),(w.heap.size,#[.int .i64 0,.string ⟨#[]⟩,.int .i64 0,.slice none 0 0],24)])∧Hid (NdV wr (Av w.heap.size [(w2.heap.size,#[.int .i64 k0,.string t0,.int .i64 v0,.slice a0 l0 c0],24),(w.heap.size,#[.int .i64 0,.string ⟨#[]⟩,.int .i64 0,.slice none 0 0],24)]) n (.agg #[.int .i64 k0,.string t0,.int .i64 v0,.slice a0 l0 c0]))∧Hid (r <:+ ts)∧Hid (r.length<ts.length)∧Hid (∀ res,R (.boundL 1 n) (tk r) res→R (.bound 1) (tk ts) res)) (fun wr=>leftOf b wr)
 case atStart=>exact ⟨_,_,_,_,_,_,_,_,HW,ħ (HN_x.out.less HZ_x.out),HS,HL,fun res hr=>r_bound1 (by omega) HR_x.out hr⟩
 case round=>
  obtain ⟨r,n,k0,t0,v0,a0,l0,c0,HW,HN_n,HS,HL,HI⟩:=hrel
  have HZ_n:=zz w
  have hmu:=HW.out.ps.leftOf
  have HMu:=hide hmu
  clear hmu
  go_wp2_with fail
  go_at_call 154
  refine (operator_any HW.out.ps HW.out.glo 1).mono ?_
  rintro e w21 ⟨hG21,⟨j,hj,hh,rfl,hP21⟩|⟨hno,rfl,hP21⟩⟩
  ·have HSg:Hid (sign (hd (tk r))=(((1:Nat):Int),(opr j).2.1)):=(sign_hit (HF.out.suf HS.out) hj hh).1
   have HL:Hid (r.tail.length<ts.length):=Nat.lt_of_lt_of_le (hd_lt rfl (sign_hit (HF.out.suf HS.out) hj hh).2) HS.out.length_le
   have HLs:Hid (r.tail.length<r.length):=hd_lt rfl (sign_hit (HF.out.suf HS.out) hj hh).2
   replace HN_n:=HW.out.kN HZ_n hG21 HN_n
   replace HW:=ħ (HW.out.call hG21 hP21)
   replace HS:=ħ ((List.tail_suffix _).trans HS.out)
   clear hG21 hP21 hh
   generalize (opr j).2.1=op at *
   clear hj j
   go_wp2_with fail
   replace HN_n:=ħ ((Mv.quiet (grown_drew w21)).nd HN_n.out)
   replace HW:=ħ (HW.out.quiet (grown_drew w21))
   refine wp_region_held_drew (S:=(fun _=>True)) (by kernel_rfl) trivial fun hHd=>?_
   generalize w21.drew=w22 at *
   refine tq 0 ?_
   simp only [qq]
   refine tq 2 ?_
   simp only [qq]
   refine rq2 1 3 (fun K hK=>?_) fun K hK=>?_
   ·have hc23:=HW.out.c0
    go_simp
    clear hc23
    refine hK.out _ _ trivial fun hHd=>?_
    clear hK K
    try simp only [qq]
    refine rq 3 fun K hK=>?_
    go_simp
    refine (HLt.out r.tail HS.out HL.out w22 HW.out.ps HW.out.two HW.out.glo HW.out.glt (HF.out.suf HS.out) (Nat.le_trans HS.out.length_le HLn.out)).mono ?_
    rintro e w24 hp
    obtain ⟨r24,n_y,k_y,t_y,v_y,a_y,l_y,c_y,rfl,HR_y,HN_y,HZ_y,HL,HSy,HLs2,hS,hW,hG⟩|⟨r,hR,rfl,h1,h2⟩:=HW.out.okN HS.out hp
    rotate_left
    ·exact ⟨rfl,h1,_,h2,Or.inr ⟨HI.out _ (r_bL1 HSg.out (by rw [← tk_tail];exact hR)),rfl⟩⟩
    replace HN_n:=HW.out.kN HZ_n hG HN_n
    replace HW:=hW
    replace HS:=hS
    clear hG hp
    refine hK.out _ _ trivial fun hHd=>?_
    clear hK K
    try simp only [qq]
    refine rq 4 fun K hK=>?_
    go_simp
    refine (operation_any w24 (Av w.heap.size [(w2.heap.size,#[.int .i64 k0,.string t0,.int .i64 v0,.slice a0 l0 c0],24),(w.heap.size,#[.int .i64 0,.string ⟨#[]⟩,.int .i64 0,.slice none 0 0],24)]) n n_y (.agg #[.int .i64 k0,.string t0,.int .i64 v0,.slice a0 l0 c0]) (.agg #[.int .i64 k_y,.string t_y,.int .i64 v_y,.slice a_y l_y c_y]) op (HN_n.out.less HZ_n.out) (HN_y.out.less HZ_y.out)).mono ?_
    rintro e w25 ⟨hG25,vv,rfl,hN⟩
    obtain ⟨k_z,t_z,v_z,a_z,l_z,c_z,rfl⟩:=hN.form
    have HN_z:=ħ (HW.out.mixed HW.out.grown.size hN)
    have HZ_z:=zz w
    clear HN_n HN_y HZ_n HZ_y
    replace HW:=ħ (HW.out.quiet hG25)
    clear hG25 hN
    refine hK.out _ _ trivial fun hHd=>?_
    clear hK K
    try simp only [qq]
    refine rq 5 fun K hK=>?_
    have hc26:=HW.out.c0
    have hf27:=HW.out.f0
    replace HW:=ħ (HW.out.s0 (.int .i64 k_z) (.string t_z) (.int .i64 v_z) (.slice a_z l_z c_z))
    replace HN_z:=HW.out.ms0.N HN_z
    go_simp
    refine hK.out _ _ trivial fun hHd=>?_
    clear hK K
    try simp only [qq]
    generalize (((w25.setCell _ _).setCell _ _).setCell _ _).setCell _ _=w28 at *
    clear hc26 hf27
    refine wpAnyH_done (by kernel_rfl) ?_ _
    go_wp2_with fail
    go_roundw
    case rel=>exact ⟨_,_,_,_,_,_,_,_,HW,HN_z,HS,HL,fun res hr=>HI.out res (r_bL2 (by decide) HSg.out (by rw [← tk_tail];exact HR_y.out) hr)⟩
    case measure=>rw [HW.out.ps.leftOf,HMu.out];exact Nat.lt_of_le_of_lt HSy.out.length_le HLs.out
   go_simp
   refine (HLt.out r.tail HS.out HL.out w22 HW.out.ps HW.out.two HW.out.glo HW.out.glt (HF.out.suf HS.out) (Nat.le_trans HS.out.length_le HLn.out)).mono ?_
   rintro e w29 hp
   obtain ⟨r29,n_y,k_y,t_y,v_y,a_y,l_y,c_y,rfl,HR_y,HN_y,HZ_y,HL,HSy,HLs2,hS,hW,hG⟩|⟨r,hR,rfl,h1,h2⟩:=HW.out.okN HS.out hp
   rotate_left
   ·exact ⟨rfl,h1,_,h2,Or.inr ⟨HI.out _ (r_bL1 HSg.out (by rw [← tk_tail];exact hR)),rfl⟩⟩
   replace HN_n:=HW.out.kN HZ_n hG HN_n
   replace HW:=hW
   replace HS:=hS
   clear hG hp
   refine hK.out _ _ trivial fun hHd=>?_
   clear hK K
   try simp only [qq]
   refine rq 1 fun K hK=>?_
   have hc30:=HW.out.c0
   go_simp
   clear hc30
   refine hK.out _ _ trivial fun hHd=>?_
   clear hK K
   try simp only [qq]
   refine rq 4 fun K hK=>?_
   go_simp
   refine (operation_any w29 (Av w.heap.size [(w2.heap.size,#[.int .i64 k0,.string t0,.int .i64 v0,.slice a0 l0 c0],24),(w.heap.size,#[.int .i64 0,.string ⟨#[]⟩,.int .i64 0,.slice none 0 0],24)]) n n_y (.agg #[.int .i64 k0,.string t0,.int .i64 v0,.slice a0 l0 c0]) (.agg #[.int .i64 k_y,.string t_y,.int .i64 v_y,.slice a_y l_y c_y]) op (HN_n.out.less HZ_n.out) (HN_y.out.less HZ_y.out)).mono ?_
   rintro e w31 ⟨hG31,vv,rfl,hN⟩
   obtain ⟨k_z,t_z,v_z,a_z,l_z,c_z,rfl⟩:=hN.form
   have HN_z:=ħ (HW.out.mixed HW.out.grown.size hN)
   have HZ_z:=zz w
   clear HN_n HN_y HZ_n HZ_y
   replace HW:=ħ (HW.out.quiet hG31)
   clear hG31 hN
   refine hK.out _ _ trivial fun hHd=>?_
   clear hK K
   try simp only [qq]
   refine rq 5 fun K hK=>?_
   have hc32:=HW.out.c0
   have hf33:=HW.out.f0
   replace HW:=ħ (HW.out.s0 (.int .i64 k_z) (.string t_z) (.int .i64 v_z) (.slice a_z l_z c_z))
   replace HN_z:=HW.out.ms0.N HN_z
   go_simp
   refine hK.out _ _ trivial fun hHd=>?_
   clear hK K
   try simp only [qq]
   generalize (((w31.setCell _ _).setCell _ _).setCell _ _).setCell _ _=w34 at *
   clear hc32 hf33
   refine wpAnyH_done (by kernel_rfl) ?_ _
   go_wp2_with fail
   go_roundw
   case rel=>exact ⟨_,_,_,_,_,_,_,_,HW,HN_z,HS,HL,fun res hr=>HI.out res (r_bL2 (by decide) HSg.out (by rw [← tk_tail];exact HR_y.out) hr)⟩
   case measure=>rw [HW.out.ps.leftOf,HMu.out];exact Nat.lt_of_le_of_lt HSy.out.length_le HLs.out
  have HSg:Hid (¬ (sign (hd (tk r))).1=((1:Nat):Int)):=sign_none (HF.out.suf HS.out) (by decide) hno
  replace HN_n:=HW.out.kN HZ_n hG21 HN_n
  replace HW:=ħ (HW.out.call hG21 hP21)
  clear hG21 hP21 hno
  have hc35:=HW.out.c0
  have hc36:=HW.out.c1
  have hf37:=HW.out.f1
  replace HW:=ħ (HW.out.s1 (.int .i64 k0) (.string t0) (.int .i64 v0) (.slice a0 l0 c0))
  replace HN_n:=HW.out.ms1.N HN_n
  go_wp2_with fail
  generalize (((w21.setCell _ _).setCell _ _).setCell _ _).setCell _ _=w40 at *
  refine bodyPost_ret (rt rfl rfl HW.out.b1) rfl ?_
  exact HW.out.post HS.out (HI.out _ (r_bL0 HSg.out)) HL.out HZ_n.out HN_n.out
theorem row_product (h:Ps w b g m ts) (hT:Two w b m) (hGl:Og w) (hb5:4<b) (hgl:g<w.heap.size) (hF:Fits ts) (hlen:ts.length≤4000) (hMe:Meth 173 (.bound 3) b g m ts) (hLt:Later 173 (.bound 3) b g m ts):Calls Tryz.prog 163 #[.pointer (some ⟨b,0,none⟩),.func (.func 173) #[.pointer (some ⟨b,0,none⟩)] #[],.int .i64 2] w (PostN (.bound 2) w b g m ts):=by
 have HW:Hid (Wd w w b g m ts []):=Wd.start h hT hGl hb5 hgl
 have HS:=su ts
 have HF:=ħ hF
 have HLn:=ħ hlen
 have HMe:=hide hMe
 have HLt:=hide hLt
 clear hMe hLt
 clear h hT hGl hgl hF hlen
 go_enter Tryz.func163,Tryz.ntmps163
 replace HW:=HW.out.az
 go_wp2_with fail
 generalize w.alloc _=w1 at *
 go_at_call 173
 refine (HMe.out w1 HW.out.ps HW.out.two HW.out.glo HW.out.glt (HF.out.suf HS.out) (Nat.le_trans HS.out.length_le HLn.out)).mono ?_
 rintro e w2 hp
 obtain ⟨r2,n_x,k_x,t_x,v_x,a_x,l_x,c_x,rfl,HR_x,HN_x,HZ_x,HL,HSx,HLs2,hS,hW,hG⟩|⟨r,hR,rfl,h1,h2⟩:=HW.out.okN HS.out hp
 rotate_left
 ·exact ⟨rfl,h1,_,h2,Or.inr ⟨r_bound0 (by omega) hR,rfl⟩⟩
 replace HW:=hW
 replace HS:=hS
 clear hG hp
 replace HW:=HW.out.an HN_x
 replace HN_x:=HW.out.nA HN_x
 go_wp2_with fail
 generalize w2.alloc _=w3 at *
 go_loopw [] (fun wr=>∃ (r:List Tok) (n:Nd) (k0:Int) (t0:ByteArray) (v0:Int) (a0:Option Addr) (l0 c0:Nat),Hid (Wd w wr b g m r [(w2.heap.size,#[.int .i64 k0,.string t0,.int .i64 v0,.slice a0 l0 c0],24),(w.heap.size,#[.int .i64 0,.string ⟨#[]⟩,.int .i64 0,.slice none 0 0],24)])∧Hid (NdV wr (Av w.heap.size [(w2.heap.size,#[.int .i64 k0,.string t0,.int .i64 v0,.slice a0 l0 c0],24),(w.heap.size,#[.int .i64 0,.string ⟨#[]⟩,.int .i64 0,.slice none 0 0],24)]) n (.agg #[.int .i64 k0,.string t0,.int .i64 v0,.slice a0 l0 c0]))∧Hid (r <:+ ts)∧Hid (r.length<ts.length)∧Hid (∀ res,R (.boundL 2 n) (tk r) res→R (.bound 2) (tk ts) res)) (fun wr=>leftOf b wr)
 case atStart=>exact ⟨_,_,_,_,_,_,_,_,HW,ħ (HN_x.out.less HZ_x.out),HS,HL,fun res hr=>r_bound1 (by omega) HR_x.out hr⟩
 case round=>
  obtain ⟨r,n,k0,t0,v0,a0,l0,c0,HW,HN_n,HS,HL,HI⟩:=hrel
  have HZ_n:=zz w
  have hmu:=HW.out.ps.leftOf
  have HMu:=hide hmu
  clear hmu
  go_wp2_with fail
  go_at_call 154
  refine (operator_any HW.out.ps HW.out.glo 2).mono ?_
  rintro e w21 ⟨hG21,⟨j,hj,hh,rfl,hP21⟩|⟨hno,rfl,hP21⟩⟩
  ·have HSg:Hid (sign (hd (tk r))=(((2:Nat):Int),(opr j).2.1)):=(sign_hit (HF.out.suf HS.out) hj hh).1
   have HL:Hid (r.tail.length<ts.length):=Nat.lt_of_lt_of_le (hd_lt rfl (sign_hit (HF.out.suf HS.out) hj hh).2) HS.out.length_le
   have HLs:Hid (r.tail.length<r.length):=hd_lt rfl (sign_hit (HF.out.suf HS.out) hj hh).2
   replace HN_n:=HW.out.kN HZ_n hG21 HN_n
   replace HW:=ħ (HW.out.call hG21 hP21)
   replace HS:=ħ ((List.tail_suffix _).trans HS.out)
   clear hG21 hP21 hh
   generalize (opr j).2.1=op at *
   clear hj j
   go_wp2_with fail
   replace HN_n:=ħ ((Mv.quiet (grown_drew w21)).nd HN_n.out)
   replace HW:=ħ (HW.out.quiet (grown_drew w21))
   refine wp_region_held_drew (S:=(fun _=>True)) (by kernel_rfl) trivial fun hHd=>?_
   generalize w21.drew=w22 at *
   refine tq 0 ?_
   simp only [qq]
   refine tq 2 ?_
   simp only [qq]
   refine rq2 1 3 (fun K hK=>?_) fun K hK=>?_
   ·have hc23:=HW.out.c0
    go_simp
    clear hc23
    refine hK.out _ _ trivial fun hHd=>?_
    clear hK K
    try simp only [qq]
    refine rq 3 fun K hK=>?_
    go_simp
    refine (HLt.out r.tail HS.out HL.out w22 HW.out.ps HW.out.two HW.out.glo HW.out.glt (HF.out.suf HS.out) (Nat.le_trans HS.out.length_le HLn.out)).mono ?_
    rintro e w24 hp
    obtain ⟨r24,n_y,k_y,t_y,v_y,a_y,l_y,c_y,rfl,HR_y,HN_y,HZ_y,HL,HSy,HLs2,hS,hW,hG⟩|⟨r,hR,rfl,h1,h2⟩:=HW.out.okN HS.out hp
    rotate_left
    ·exact ⟨rfl,h1,_,h2,Or.inr ⟨HI.out _ (r_bL1 HSg.out (by rw [← tk_tail];exact hR)),rfl⟩⟩
    replace HN_n:=HW.out.kN HZ_n hG HN_n
    replace HW:=hW
    replace HS:=hS
    clear hG hp
    refine hK.out _ _ trivial fun hHd=>?_
    clear hK K
    try simp only [qq]
    refine rq 4 fun K hK=>?_
    go_simp
    refine (operation_any w24 (Av w.heap.size [(w2.heap.size,#[.int .i64 k0,.string t0,.int .i64 v0,.slice a0 l0 c0],24),(w.heap.size,#[.int .i64 0,.string ⟨#[]⟩,.int .i64 0,.slice none 0 0],24)]) n n_y (.agg #[.int .i64 k0,.string t0,.int .i64 v0,.slice a0 l0 c0]) (.agg #[.int .i64 k_y,.string t_y,.int .i64 v_y,.slice a_y l_y c_y]) op (HN_n.out.less HZ_n.out) (HN_y.out.less HZ_y.out)).mono ?_
    rintro e w25 ⟨hG25,vv,rfl,hN⟩
    obtain ⟨k_z,t_z,v_z,a_z,l_z,c_z,rfl⟩:=hN.form
    have HN_z:=ħ (HW.out.mixed HW.out.grown.size hN)
    have HZ_z:=zz w
    clear HN_n HN_y HZ_n HZ_y
    replace HW:=ħ (HW.out.quiet hG25)
    clear hG25 hN
    refine hK.out _ _ trivial fun hHd=>?_
    clear hK K
    try simp only [qq]
    refine rq 5 fun K hK=>?_
    have hc26:=HW.out.c0
    have hf27:=HW.out.f0
    replace HW:=ħ (HW.out.s0 (.int .i64 k_z) (.string t_z) (.int .i64 v_z) (.slice a_z l_z c_z))
    replace HN_z:=HW.out.ms0.N HN_z
    go_simp
    refine hK.out _ _ trivial fun hHd=>?_
    clear hK K
    try simp only [qq]
    generalize (((w25.setCell _ _).setCell _ _).setCell _ _).setCell _ _=w28 at *
    clear hc26 hf27
    refine wpAnyH_done (by kernel_rfl) ?_ _
    go_wp2_with fail
    go_roundw
    case rel=>exact ⟨_,_,_,_,_,_,_,_,HW,HN_z,HS,HL,fun res hr=>HI.out res (r_bL2 (by decide) HSg.out (by rw [← tk_tail];exact HR_y.out) hr)⟩
    case measure=>rw [HW.out.ps.leftOf,HMu.out];exact Nat.lt_of_le_of_lt HSy.out.length_le HLs.out
   go_simp
   refine (HLt.out r.tail HS.out HL.out w22 HW.out.ps HW.out.two HW.out.glo HW.out.glt (HF.out.suf HS.out) (Nat.le_trans HS.out.length_le HLn.out)).mono ?_
   rintro e w29 hp
   obtain ⟨r29,n_y,k_y,t_y,v_y,a_y,l_y,c_y,rfl,HR_y,HN_y,HZ_y,HL,HSy,HLs2,hS,hW,hG⟩|⟨r,hR,rfl,h1,h2⟩:=HW.out.okN HS.out hp
   rotate_left
   ·exact ⟨rfl,h1,_,h2,Or.inr ⟨HI.out _ (r_bL1 HSg.out (by rw [← tk_tail];exact hR)),rfl⟩⟩
   replace HN_n:=HW.out.kN HZ_n hG HN_n
   replace HW:=hW
   replace HS:=hS
   clear hG hp
   refine hK.out _ _ trivial fun hHd=>?_
   clear hK K
   try simp only [qq]
   refine rq 1 fun K hK=>?_
   have hc30:=HW.out.c0
   go_simp
   clear hc30
   refine hK.out _ _ trivial fun hHd=>?_
   clear hK K
   try simp only [qq]
   refine rq 4 fun K hK=>?_
   go_simp
   refine (operation_any w29 (Av w.heap.size [(w2.heap.size,#[.int .i64 k0,.string t0,.int .i64 v0,.slice a0 l0 c0],24),(w.heap.size,#[.int .i64 0,.string ⟨#[]⟩,.int .i64 0,.slice none 0 0],24)]) n n_y (.agg #[.int .i64 k0,.string t0,.int .i64 v0,.slice a0 l0 c0]) (.agg #[.int .i64 k_y,.string t_y,.int .i64 v_y,.slice a_y l_y c_y]) op (HN_n.out.less HZ_n.out) (HN_y.out.less HZ_y.out)).mono ?_
   rintro e w31 ⟨hG31,vv,rfl,hN⟩
   obtain ⟨k_z,t_z,v_z,a_z,l_z,c_z,rfl⟩:=hN.form
   have HN_z:=ħ (HW.out.mixed HW.out.grown.size hN)
   have HZ_z:=zz w
   clear HN_n HN_y HZ_n HZ_y
   replace HW:=ħ (HW.out.quiet hG31)
   clear hG31 hN
   refine hK.out _ _ trivial fun hHd=>?_
   clear hK K
   try simp only [qq]
   refine rq 5 fun K hK=>?_
   have hc32:=HW.out.c0
   have hf33:=HW.out.f0
   replace HW:=ħ (HW.out.s0 (.int .i64 k_z) (.string t_z) (.int .i64 v_z) (.slice a_z l_z c_z))
   replace HN_z:=HW.out.ms0.N HN_z
   go_simp
   refine hK.out _ _ trivial fun hHd=>?_
   clear hK K
   try simp only [qq]
   generalize (((w31.setCell _ _).setCell _ _).setCell _ _).setCell _ _=w34 at *
   clear hc32 hf33
   refine wpAnyH_done (by kernel_rfl) ?_ _
   go_wp2_with fail
   go_roundw
   case rel=>exact ⟨_,_,_,_,_,_,_,_,HW,HN_z,HS,HL,fun res hr=>HI.out res (r_bL2 (by decide) HSg.out (by rw [← tk_tail];exact HR_y.out) hr)⟩
   case measure=>rw [HW.out.ps.leftOf,HMu.out];exact Nat.lt_of_le_of_lt HSy.out.length_le HLs.out
  have HSg:Hid (¬ (sign (hd (tk r))).1=((2:Nat):Int)):=sign_none (HF.out.suf HS.out) (by decide) hno
  replace HN_n:=HW.out.kN HZ_n hG21 HN_n
  replace HW:=ħ (HW.out.call hG21 hP21)
  clear hG21 hP21 hno
  have hc35:=HW.out.c0
  have hc36:=HW.out.c1
  have hf37:=HW.out.f1
  replace HW:=ħ (HW.out.s1 (.int .i64 k0) (.string t0) (.int .i64 v0) (.slice a0 l0 c0))
  replace HN_n:=HW.out.ms1.N HN_n
  go_wp2_with fail
  generalize (((w21.setCell _ _).setCell _ _).setCell _ _).setCell _ _=w40 at *
  refine bodyPost_ret (rt rfl rfl HW.out.b1) rfl ?_
  exact HW.out.post HS.out (HI.out _ (r_bL0 HSg.out)) HL.out HZ_n.out HN_n.out
theorem sum_any (h:Ps w b g m ts) (hT:Two w b m) (hGl:Og w) (hb5:4<b) (hgl:g<w.heap.size) (hF:Fits ts) (hlen:ts.length≤4000) (hMe:Meth 164 (.bound 2) b g m ts) (hLt:Later 164 (.bound 2) b g m ts):Calls Tryz.prog 153 #[.pointer (some ⟨b,0,none⟩)] w (PostN (.bound 1) w b g m ts):=by
 have HW:Hid (Wd w w b g m ts []):=Wd.start h hT hGl hb5 hgl
 have HS:=su ts
 have HF:=ħ hF
 have HLn:=ħ hlen
 have HMe:=hide hMe
 have HLt:=hide hLt
 clear hMe hLt
 clear h hT hGl hgl hF hlen
 go_enter Tryz.func153,Tryz.ntmps153
 replace HW:=HW.out.az
 go_wp2_with fail
 generalize w.alloc _=w1 at *
 go_at_call 163
 refine (row_sum HW.out.ps HW.out.two HW.out.glo hb5 HW.out.glt HF.out HLn.out HMe.out HLt.out).mono ?_
 rintro e w2 hp
 obtain ⟨r2,n_x,k_x,t_x,v_x,a_x,l_x,c_x,rfl,HR_x,HN_x,HZ_x,HL,HSx,HLs2,hS,hW,hG⟩|⟨r,hR,rfl,h1,h2⟩:=HW.out.okN HS.out hp
 rotate_left
 ·exact ⟨rfl,h1,_,h2,Or.inr ⟨hR,rfl⟩⟩
 replace HW:=hW
 replace HS:=hS
 clear hG hp
 have hc3:=HW.out.c0
 have hf4:=HW.out.f0
 replace HW:=ħ (HW.out.s0 (.int .i64 k_x) (.string t_x) (.int .i64 v_x) (.slice a_x l_x c_x))
 replace HN_x:=HW.out.ms0.N HN_x
 go_wp2_with fail
 generalize (((w2.setCell _ _).setCell _ _).setCell _ _).setCell _ _=w7 at *
 refine bodyPost_ret (rt rfl rfl HW.out.b0) rfl ?_
 exact HW.out.post HS.out (HR_x.out) HL.out HZ_x.out HN_x.out
theorem product_any (h:Ps w b g m ts) (hT:Two w b m) (hGl:Og w) (hb5:4<b) (hgl:g<w.heap.size) (hF:Fits ts) (hlen:ts.length≤4000) (hMe:Meth 173 (.bound 3) b g m ts) (hLt:Later 173 (.bound 3) b g m ts):Calls Tryz.prog 164 #[.pointer (some ⟨b,0,none⟩)] w (PostN (.bound 2) w b g m ts):=by
 have HW:Hid (Wd w w b g m ts []):=Wd.start h hT hGl hb5 hgl
 have HS:=su ts
 have HF:=ħ hF
 have HLn:=ħ hlen
 have HMe:=hide hMe
 have HLt:=hide hLt
 clear hMe hLt
 clear h hT hGl hgl hF hlen
 go_enter Tryz.func164,Tryz.ntmps164
 replace HW:=HW.out.az
 go_wp2_with fail
 generalize w.alloc _=w1 at *
 go_at_call 163
 refine (row_product HW.out.ps HW.out.two HW.out.glo hb5 HW.out.glt HF.out HLn.out HMe.out HLt.out).mono ?_
 rintro e w2 hp
 obtain ⟨r2,n_x,k_x,t_x,v_x,a_x,l_x,c_x,rfl,HR_x,HN_x,HZ_x,HL,HSx,HLs2,hS,hW,hG⟩|⟨r,hR,rfl,h1,h2⟩:=HW.out.okN HS.out hp
 rotate_left
 ·exact ⟨rfl,h1,_,h2,Or.inr ⟨hR,rfl⟩⟩
 replace HW:=hW
 replace HS:=hS
 clear hG hp
 have hc3:=HW.out.c0
 have hf4:=HW.out.f0
 replace HW:=ħ (HW.out.s0 (.int .i64 k_x) (.string t_x) (.int .i64 v_x) (.slice a_x l_x c_x))
 replace HN_x:=HW.out.ms0.N HN_x
 go_wp2_with fail
 generalize (((w2.setCell _ _).setCell _ _).setCell _ _).setCell _ _=w7 at *
 refine bodyPost_ret (rt rfl rfl HW.out.b0) rfl ?_
 exact HW.out.post HS.out (HR_x.out) HL.out HZ_x.out HN_x.out
theorem expr_any (h:Ps w b g m ts) (hT:Two w b m) (hGl:Og w) (hb5:4<b) (hgl:g<w.heap.size) (hF:Fits ts) (hlen:ts.length≤4000) (hMe:Meth 153 (.bound 1) b g m ts) (hLt:Later 153 (.bound 1) b g m ts):Calls Tryz.prog 143 #[.pointer (some ⟨b,0,none⟩)] w (PostN .expr w b g m ts):=by
 have HW:Hid (Wd w w b g m ts []):=Wd.start h hT hGl hb5 hgl
 have HS:=su ts
 have HF:=ħ hF
 have HLn:=ħ hlen
 have HMe:=hide hMe
 have HLt:=hide hLt
 clear hMe hLt
 clear h hT hGl hgl hF hlen
 go_enter Tryz.func143,Tryz.ntmps143
 replace HW:=HW.out.az
 go_wp2_with fail
 generalize w.alloc _=w1 at *
 go_at_call 153
 refine (HMe.out w1 HW.out.ps HW.out.two HW.out.glo HW.out.glt (HF.out.suf HS.out) (Nat.le_trans HS.out.length_le HLn.out)).mono ?_
 rintro e w2 hp
 obtain ⟨r2,n_x,k_x,t_x,v_x,a_x,l_x,c_x,rfl,HR_x,HN_x,HZ_x,HL,HSx,HLs2,hS,hW,hG⟩|⟨r,hR,rfl,h1,h2⟩:=HW.out.okN HS.out hp
 rotate_left
 ·exact ⟨rfl,h1,_,h2,Or.inr ⟨r_expr (r_bound0 (by omega) hR),rfl⟩⟩
 replace HW:=hW
 replace HS:=hS
 clear hG hp
 replace HW:=HW.out.an HN_x
 replace HN_x:=HW.out.nA HN_x
 go_wp2_with fail
 generalize w2.alloc _=w3 at *
 go_at_call 154
 refine (operator_any HW.out.ps HW.out.glo 0).mono ?_
 rintro e w4 ⟨hG4,⟨j,hj,hh,rfl,hP4⟩|⟨hno,rfl,hP4⟩⟩
 ·have HSg:Hid (sign (hd (tk r2))=(((0:Nat):Int),(opr j).2.1)):=(sign_hit (HF.out.suf HS.out) hj hh).1
  have HL:Hid (r2.tail.length<ts.length):=Nat.lt_of_lt_of_le (hd_lt rfl (sign_hit (HF.out.suf HS.out) hj hh).2) HS.out.length_le
  have HLs:Hid (r2.tail.length<r2.length):=hd_lt rfl (sign_hit (HF.out.suf HS.out) hj hh).2
  replace HN_x:=HW.out.kN HZ_x hG4 HN_x
  replace HW:=ħ (HW.out.call hG4 hP4)
  replace HS:=ħ ((List.tail_suffix _).trans HS.out)
  clear hG4 hP4 hh
  generalize (opr j).2.1=op at *
  clear hj j
  go_wp2_with fail
  replace HN_x:=ħ ((Mv.quiet (grown_drew w4)).nd HN_x.out)
  replace HW:=ħ (HW.out.quiet (grown_drew w4))
  refine wp_region_held_drew (S:=(fun _=>True)) (by kernel_rfl) trivial fun hHd=>?_
  generalize w4.drew=w5 at *
  refine tq 0 ?_
  simp only [qq]
  refine tq 2 ?_
  simp only [qq]
  refine rq2 1 3 (fun K hK=>?_) fun K hK=>?_
  ·have hc6:=HW.out.c0
   go_simp
   clear hc6
   refine hK.out _ _ trivial fun hHd=>?_
   clear hK K
   try simp only [qq]
   refine rq 3 fun K hK=>?_
   go_simp
   refine (HLt.out r2.tail HS.out HL.out w5 HW.out.ps HW.out.two HW.out.glo HW.out.glt (HF.out.suf HS.out) (Nat.le_trans HS.out.length_le HLn.out)).mono ?_
   rintro e w7 hp
   obtain ⟨r7,n_y,k_y,t_y,v_y,a_y,l_y,c_y,rfl,HR_y,HN_y,HZ_y,HL,HSy,HLs2,hS,hW,hG⟩|⟨r,hR,rfl,h1,h2⟩:=HW.out.okN HS.out hp
   rotate_left
   ·exact ⟨rfl,h1,_,h2,Or.inr ⟨r_expr (r_bound1 (by omega) HR_x.out (r_bL1 HSg.out (by rw [← tk_tail];exact hR))),rfl⟩⟩
   replace HN_x:=HW.out.kN HZ_x hG HN_x
   replace HW:=hW
   replace HS:=hS
   clear hG hp
   refine hK.out _ _ trivial fun hHd=>?_
   clear hK K
   try simp only [qq]
   refine rq 4 fun K hK=>?_
   go_simp
   refine (operation_any w7 (Av w.heap.size [(w2.heap.size,#[.int .i64 k_x,.string t_x,.int .i64 v_x,.slice a_x l_x c_x],24),(w.heap.size,#[.int .i64 0,.string ⟨#[]⟩,.int .i64 0,.slice none 0 0],24)]) n_x n_y (.agg #[.int .i64 k_x,.string t_x,.int .i64 v_x,.slice a_x l_x c_x]) (.agg #[.int .i64 k_y,.string t_y,.int .i64 v_y,.slice a_y l_y c_y]) op (HN_x.out.less HZ_x.out) (HN_y.out.less HZ_y.out)).mono ?_
   rintro e w8 ⟨hG8,vv,rfl,hN⟩
   obtain ⟨k_z,t_z,v_z,a_z,l_z,c_z,rfl⟩:=hN.form
   have HN_z:=ħ (HW.out.mixed HW.out.grown.size hN)
   have HZ_z:=zz w
   clear HN_x HN_y HZ_x HZ_y
   replace HW:=ħ (HW.out.quiet hG8)
   clear hG8 hN
   refine hK.out _ _ trivial fun hHd=>?_
   clear hK K
   try simp only [qq]
   refine rq 5 fun K hK=>?_
   have hc9:=HW.out.c0
   have hf10:=HW.out.f0
   replace HW:=ħ (HW.out.s0 (.int .i64 k_z) (.string t_z) (.int .i64 v_z) (.slice a_z l_z c_z))
   replace HN_z:=HW.out.ms0.N HN_z
   go_simp
   refine hK.out _ _ trivial fun hHd=>?_
   clear hK K
   try simp only [qq]
   generalize (((w8.setCell _ _).setCell _ _).setCell _ _).setCell _ _=w11 at *
   clear hc9 hf10
   refine wpAnyH_done (by kernel_rfl) ?_ _
   have hc12:=HW.out.c0
   have hc13:=HW.out.c1
   have hf14:=HW.out.f1
   replace HW:=ħ (HW.out.s1 (.int .i64 k_z) (.string t_z) (.int .i64 v_z) (.slice a_z l_z c_z))
   replace HN_z:=HW.out.ms1.N HN_z
   go_wp2_with fail
   generalize (((w11.setCell _ _).setCell _ _).setCell _ _).setCell _ _=w17 at *
   refine bodyPost_ret (rt rfl rfl HW.out.b1) rfl ?_
   exact HW.out.post HS.out (r_expr (r_bound1 (by omega) HR_x.out (r_bL3 HSg.out (by rw [← tk_tail];exact HR_y.out)))) HL.out HZ_z.out HN_z.out
  go_simp
  refine (HLt.out r2.tail HS.out HL.out w5 HW.out.ps HW.out.two HW.out.glo HW.out.glt (HF.out.suf HS.out) (Nat.le_trans HS.out.length_le HLn.out)).mono ?_
  rintro e w18 hp
  obtain ⟨r18,n_y,k_y,t_y,v_y,a_y,l_y,c_y,rfl,HR_y,HN_y,HZ_y,HL,HSy,HLs2,hS,hW,hG⟩|⟨r,hR,rfl,h1,h2⟩:=HW.out.okN HS.out hp
  rotate_left
  ·exact ⟨rfl,h1,_,h2,Or.inr ⟨r_expr (r_bound1 (by omega) HR_x.out (r_bL1 HSg.out (by rw [← tk_tail];exact hR))),rfl⟩⟩
  replace HN_x:=HW.out.kN HZ_x hG HN_x
  replace HW:=hW
  replace HS:=hS
  clear hG hp
  refine hK.out _ _ trivial fun hHd=>?_
  clear hK K
  try simp only [qq]
  refine rq 1 fun K hK=>?_
  have hc19:=HW.out.c0
  go_simp
  clear hc19
  refine hK.out _ _ trivial fun hHd=>?_
  clear hK K
  try simp only [qq]
  refine rq 4 fun K hK=>?_
  go_simp
  refine (operation_any w18 (Av w.heap.size [(w2.heap.size,#[.int .i64 k_x,.string t_x,.int .i64 v_x,.slice a_x l_x c_x],24),(w.heap.size,#[.int .i64 0,.string ⟨#[]⟩,.int .i64 0,.slice none 0 0],24)]) n_x n_y (.agg #[.int .i64 k_x,.string t_x,.int .i64 v_x,.slice a_x l_x c_x]) (.agg #[.int .i64 k_y,.string t_y,.int .i64 v_y,.slice a_y l_y c_y]) op (HN_x.out.less HZ_x.out) (HN_y.out.less HZ_y.out)).mono ?_
  rintro e w20 ⟨hG20,vv,rfl,hN⟩
  obtain ⟨k_z,t_z,v_z,a_z,l_z,c_z,rfl⟩:=hN.form
  have HN_z:=ħ (HW.out.mixed HW.out.grown.size hN)
  have HZ_z:=zz w
  clear HN_x HN_y HZ_x HZ_y
  replace HW:=ħ (HW.out.quiet hG20)
  clear hG20 hN
  refine hK.out _ _ trivial fun hHd=>?_
  clear hK K
  try simp only [qq]
  refine rq 5 fun K hK=>?_
  have hc21:=HW.out.c0
  have hf22:=HW.out.f0
  replace HW:=ħ (HW.out.s0 (.int .i64 k_z) (.string t_z) (.int .i64 v_z) (.slice a_z l_z c_z))
  replace HN_z:=HW.out.ms0.N HN_z
  go_simp
  refine hK.out _ _ trivial fun hHd=>?_
  clear hK K
  try simp only [qq]
  generalize (((w20.setCell _ _).setCell _ _).setCell _ _).setCell _ _=w23 at *
  clear hc21 hf22
  refine wpAnyH_done (by kernel_rfl) ?_ _
  have hc24:=HW.out.c0
  have hc25:=HW.out.c1
  have hf26:=HW.out.f1
  replace HW:=ħ (HW.out.s1 (.int .i64 k_z) (.string t_z) (.int .i64 v_z) (.slice a_z l_z c_z))
  replace HN_z:=HW.out.ms1.N HN_z
  go_wp2_with fail
  generalize (((w23.setCell _ _).setCell _ _).setCell _ _).setCell _ _=w29 at *
  refine bodyPost_ret (rt rfl rfl HW.out.b1) rfl ?_
  exact HW.out.post HS.out (r_expr (r_bound1 (by omega) HR_x.out (r_bL3 HSg.out (by rw [← tk_tail];exact HR_y.out)))) HL.out HZ_z.out HN_z.out
 have HSg:Hid (¬ (sign (hd (tk r2))).1=((0:Nat):Int)):=sign_none (HF.out.suf HS.out) (by decide) hno
 replace HN_x:=HW.out.kN HZ_x hG4 HN_x
 replace HW:=ħ (HW.out.call hG4 hP4)
 clear hG4 hP4 hno
 have hc30:=HW.out.c0
 have hc31:=HW.out.c1
 have hf32:=HW.out.f1
 replace HW:=ħ (HW.out.s1 (.int .i64 k_x) (.string t_x) (.int .i64 v_x) (.slice a_x l_x c_x))
 replace HN_x:=HW.out.ms1.N HN_x
 go_wp2_with fail
 generalize (((w4.setCell _ _).setCell _ _).setCell _ _).setCell _ _=w35 at *
 refine bodyPost_ret (rt rfl rfl HW.out.b1) rfl ?_
 exact HW.out.post HS.out (r_expr (r_bound1 (by omega) HR_x.out (r_bL0 HSg.out))) HL.out HZ_x.out HN_x.out
end Go.Proofs.YthcfianhdkolhaaGreatDoor.Y
namespace Go.Proofs.YthcfianhdkolhaaGreatDoor.Y
open Go.RowKit Go.Proofs.YthcfianhdkolhaaGreatDoor.X Go.Proofs.YthcfianhdkolhaaGreatDoor.T Go.Proofs.YthcfianhdkolhaaGreatDoor.S
set_option linter.unusedVariables false
set_option linter.unusedSimpArgs false
variable {w w' w0 : World} {b g : Nat} {m : Value} {ts : List Tok} {t : Tok}
theorem cellsN_length (l:List (Value × Value × Value × Value)):(cellsN l).length=l.length*4:=by
 induction l with
 | nil=>rfl
 | cons x r ih=>
  obtain ⟨a,b,c,d⟩:=x
  show (cellsN r).length+1+1+1+1=(r.length+1)*4
  omega
theorem RowN.shape {A:Nat→Prop} {v:Value} {l:List Nd} (h:RowN w A v l):(v=.slice none 0 0∧l=[])∨∃ q cap,v=.slice (some ⟨q,0,none⟩) l.length cap∧l.length≤cap∧cap≤maxLen:=by
 obtain ⟨cs,h1,h2,h3⟩:=h.row
 rcases h2.2 with ⟨rfl,hl⟩|⟨g,cap,cu,rfl,hb,hh,r⟩
 ·exact Or.inl ⟨rfl,List.eq_nil_of_length_eq_zero hl⟩
 exact Or.inr ⟨g,cap,rfl,r.1,r.2.1⟩
theorem NdV.cells {A:Nat→Prop} {n:Nd} {a b c d:Value} (h:NdV w A n (.agg #[a,b,c,d])):a.oneCell'=true∧b.oneCell'=true∧c.oneCell'=true∧d.oneCell'=true:=by
 obtain ⟨k,t,v,ka,kn,kc,e⟩:=h.form
 have e':#[a,b,c,d]=#[.int .i64 k,.string t,.int .i64 v,.slice ka kn kc]:=Value.agg.inj e
 have e2:=congrArg Array.toList e'
 simp at e2
 obtain ⟨rfl,rfl,rfl,rfl⟩:=e2
 exact ⟨rfl,rfl,rfl,rfl⟩
theorem mem_cells:∀ (l:List (Value × Value × Value × Value)) (u:Value),u∈cellsN l→∃ j,∃ (h:j<l.length),u=l[j].1∨u=l[j].2.1∨u=l[j].2.2.1∨u=l[j].2.2.2
 | [],u,h=>by simp [cellsN] at h
 | (a,b,c,d)::r,u,h=>by
  have h':u=a∨u=b∨u=c∨u=d∨u∈cellsN r:=by simpa [cellsN] using h
  rcases h' with h'|h'|h'|h'|h'
  ·exact ⟨0,by simp,Or.inl h'⟩
  ·exact ⟨0,by simp,Or.inr (Or.inl h')⟩
  ·exact ⟨0,by simp,Or.inr (Or.inr (Or.inl h'))⟩
  ·exact ⟨0,by simp,Or.inr (Or.inr (Or.inr h'))⟩
  obtain ⟨j,hj,e⟩:=mem_cells r u h'
  exact ⟨j+1,by simpa using hj,by simpa using e⟩
theorem app_rows {A:Nat→Prop} {v v2:Value} {l l2:List Nd} (hown:RowN w A v l) (h2:RowN w (fun k=>A k∧some k≠v.ownBlock) v2 l2) (hn:l.length+l2.length≤16000) (hA':A w.heap.size) (ty:TypeId):
  (v2=.slice none 0 0∧l2=[]∧(Builtin.append_ #[22,22] ty #[v,v2]).run Tryz.prog w=.ok v w)∨(l2=[]) ∨
  ∃ gg cap w',(Builtin.append_ #[22,22] ty #[v,v2]).run Tryz.prog w=.ok (.slice (some ⟨gg,0,none⟩) (l++l2).length cap) w'∧RowN w' A (.slice (some ⟨gg,0,none⟩) (l++l2).length cap) (l++l2)∧w.grownBy w' v.ownBlock:=by
 obtain ⟨i0,hi,hz0,hz1,hz2⟩:=info_parts info24
 obtain ⟨cs,c1,c2,c3⟩:=hown.row
 obtain ⟨ds,d1,d2,d3⟩:=h2.row
 by_cases he:l2=[]
 ·exact Or.inr (Or.inl he)
 have hpos:0<l2.length:=List.length_pos_iff.2 he
 rcases d2.2 with ⟨rfl,hl⟩|⟨q,cap2,cu,rfl,hb2,hh2,r1,r2,r3,r4⟩
 ·exact absurd hl (by omega)
 refine Or.inr (Or.inr ?_)
 have hnews:∀ j u,(cellsN ds)[j]?=some u→w.cell? ((⟨q,0,none⟩:Addr).add j)=some u:=fun j u hu=>by
  have hj:j<l2.length*4:=by
   have:=(List.getElem?_eq_some_iff.1 hu).1
   rw [cellsN_length,d1] at this
   exact this
  have e:w.cell? ⟨q,j,none⟩=(cellsN ds)[j]?:=by
   rw [← r4,List.getElem?_take_of_lt hj,Array.getElem?_toList]
   simp [World.cell?,hh2]
  have e3:((⟨q,0,none⟩:Addr).add j)=⟨q,j,none⟩:=by simp [Addr.add];omega
  rw [e3,e]
  exact hu
 have h1:∀ u∈cellsN ds,u.oneCell'=true:=fun u hu=>by
  obtain ⟨j,hj,e⟩:=mem_cells ds u hu
  have hc:=(d3 j (by omega) hj).cells
  rcases e with rfl|rfl|rfl|rfl
  ·exact hc.1
  ·exact hc.2.1
  ·exact hc.2.2.1
  exact hc.2.2.2
 obtain ⟨gg,cap,w',hr,h3,h4,h5,h6⟩:=run_append_lies (P:=Tryz.prog) w 22 ty 0 24 i0 _ 4 56 Tryz.underlying22 hi hz0 hz1 hz2 rfl (by decide) v l.length (cellsN cs) c2 ⟨q,0,none⟩ l2.length cap2 (cellsN ds) (by rw [cellsN_length,d1]) hnews h1 hpos (by unfold maxLen;omega) (by omega) (Nat.zero_le _) w.heap.size rfl
 have el:(l++l2).length=l.length+l2.length:=by simp
 have hgA:A gg:=by
  rcases h5 with e|e
  ·exact hown.own gg e
  rw [e];exact hA'
 refine ⟨gg,cap,w',by rw [el];exact hr,?_,h4⟩
 have hn1:∀ n u,NdV w (fun k=>A k∧some k≠v.ownBlock) n u→NdV w' (fun k=>A k∧some k≠some gg) n u:=fun n u hu=>hu.move (fun k hk' hlt=>⟨h4.block k hlt hk'.2,hk'.1,fun e2=>by
  injection e2 with e2
  rcases h5 with e|e
  ·exact hk'.2 (by rw [e,e2])
  omega⟩)
 refine ⟨fun k hk'=>?_,cs++ds,by simp [c1,d1],?_,fun j hj hj'=>?_⟩
 ·obtain rfl:gg=k:=by simpa [Value.ownBlock] using hk'
  exact hgA
 ·rw [cellsN_app,el]
  exact h3
 by_cases q':j<l.length
 ·have q'':j<cs.length:=by omega
  rw [List.getElem_append_left q']
  simp only [List.getElem_append_left q'']
  exact hn1 _ _ (c3 j q' q'')
 have q2:l.length≤j:=by omega
 have q3:cs.length≤j:=by omega
 have q4:j - l.length<l2.length:=by rw [el] at hj;omega
 have q5:j - l.length<ds.length:=by omega
 rw [List.getElem_append_right q2]
 simp only [List.getElem_append_right q3,c1]
 exact hn1 _ _ ((d3 (j - l.length) q4 q5).mono (fun k hk' _=>hk'.1))
theorem app_rows_step {ops:Array Oper} {o:Oper} {a:Act} {K:Act→World→Prop} {Q:Exit→Act→World→Prop} {E:Prop} {L:List Bk} (p q:Operand) (hgd:o.guard=none)
  (ho:o.op=.call { callee:=.builtin .append,args:=#[p,q],argTypes:=#[22,22] }) {s0:Nat} {v v2:Value} {l l2:List Nd}
  (HW:Wd w0 w b g m ts L) (HM:RowN w (Av s0 L) v l) (HM2:RowN w (fun k=>Av w0.heap.size L k∧some k≠v.ownBlock) v2 l2) (hz:w0.heap.size≤s0) (hn:l.length+l2.length≤16000) (hnil:l2=[]→v2=.slice none 0 0) (hv:l≠[])
  (hs:a.eval p=v) (hx:a.eval q=v2)
  (h:∀ gg cap w',Wd w0 w' b g m ts L→RowN w' (Av w0.heap.size L) (.slice (some ⟨gg,0,none⟩) (l++l2).length cap) (l++l2)→w.grownBy w' v.ownBlock→K (a.put o.dst (.slice (some ⟨gg,0,none⟩) (l++l2).length cap)) w'):
  if Region.wanted o (yielded ops a.tmps)=true then Oper.wp Tryz.prog o a w K Q else E:=by
 have hw:Region.wanted o (yielded ops a.tmps)=true:=by simp [Region.wanted,hgd]
 rw [if_pos hw]
 have hA':Av w0.heap.size L w.heap.size:=⟨HW.grown.size,fun y hy=>by have:=HW.lt y hy;omega⟩
 by_cases he:l2=[]
 ·subst he
  obtain rfl:=hnil rfl
  obtain ⟨i0,hi,hz0,hz1',hz2⟩:=info_parts info24
  obtain ⟨cs,c1,c2,c3⟩:=HM.row
  have hr:=run_append_owned_none (P:=Tryz.prog) (w:=w) 0 22 o.type 24 i0 4 Tryz.underlying22 hi v l.length (cellsN cs) c2
  rcases HM.shape with ⟨rfl,e⟩|⟨gg,cap,rfl,_⟩
  ·exact absurd e hv
  unfold Oper.wp execOp
  simp only [ho,resolve,invoke,builtin,Sem.run_bind,Sem.run_pure,Result.andThen_ok,List.map_toArray,List.map_cons,List.map_nil,hs,hx,hr]
  have:=h gg cap w HW (by rw [List.append_nil];exact HM.less hz) ⟨rfl,rfl,rfl,Nat.le_refl _,fun _ _ _=>rfl⟩
  rw [List.append_nil] at this
  exact this
 rcases app_rows (HM.less hz) HM2 hn hA' o.type with ⟨_,e,_⟩|e|⟨gg,cap,w',hr,h3,h4⟩
 ·exact absurd e he
 ·exact absurd e he
 unfold Oper.wp execOp
 simp only [ho,resolve,invoke,builtin,Sem.run_bind,Sem.run_pure,Result.andThen_ok,List.map_toArray,List.map_cons,List.map_nil,hs,hx,hr]
 exact h gg cap w' (HW.rowed h4 (Nat.le_refl _) (fun j hj=>(HM.less hz).own j hj)) h3 h4
theorem apart_old {L:List Bk} {s1:Nat} {v v2:Value} {l2:List Nd} (h:RowN w (Av s1 L) v2 l2) (hz:w0.heap.size≤s1) (hk:∀ j,v.ownBlock=some j→j<s1):RowN w (fun k=>Av w0.heap.size L k∧some k≠v.ownBlock) v2 l2:=
 h.move (fun k hk' _=>⟨rfl,⟨Nat.le_trans hz hk'.1,hk'.2⟩,fun e=>by have:=hk k e.symm;have:=hk'.1;omega⟩)
theorem apart_new {L:List Bk} {s1 q cp n:Nat} {x:Bk} {v2:Value} {l2:List Nd} (h:RowN w (Av s1 (x::L)) v2 l2) (hz:w0.heap.size≤s1) (hq:x.1=q):RowN w (fun k=>Av w0.heap.size L k∧some k≠(Value.slice (some ⟨q,0,none⟩) n cp).ownBlock) v2 l2:=
 h.move (fun k hk' _=>⟨rfl,⟨Nat.le_trans hz hk'.1,fun y hy=>hk'.2 y (List.mem_cons_of_mem _ hy)⟩,fun e=>hk'.2 x List.mem_cons_self (by have:k=q:=Option.some.inj e;omega)⟩)
structure Loop (c:List UInt8) (J:List Nd→List Tk→Prop) (Kp:Option (List Nd)→List Tk→Prop) (ts:List Tk):Prop where
 z:hd ts=c→Kp (some []) ts.tail
 j0:¬ hd ts=c→J [] ts
 no:∀ acc t r,J acc t→R .expr t (.no r)→Kp none r
 comma:∀ acc t x r,J acc t→R .expr t (.ok (.nd x) r)→hd r=sCOMMA→J (acc++[x]) r.tail
 done:∀ acc t x r,J acc t→R .expr t (.ok (.nd x) r)→¬ hd r=sCOMMA→hd r=c→Kp (some (acc++[x])) r.tail
 bad:∀ acc t x r,J acc t→R .expr t (.ok (.nd x) r)→¬ hd r=sCOMMA→¬ hd r=c→Kp none r
def PartsP (Kp:Option (List Nd)→List Tk→Prop) (w:World) (b g:Nat) (m:Value) (ts:List Tok) (e:Ending) (w':World):Prop:=w.grownBy w' (some b)∧∃ r,r <:+ ts ∧
 ((∃ l v,r.length<ts.length∧l.length+r.length≤ts.length∧Kp (some l) (tk r)∧e=.returned v∧RowN w' (fun k=>w.heap.size≤k) v l∧(l=[]→v=.slice none 0 0)∧Ps w' b g m r)∨(Kp none (tk r)∧e=up r))
def PostB (n:Nd) (w0:World) (b g:Nat) (m:Value) (ts:List Tok) (L:List Bk) (e:Ending) (w':World):Prop:=w0.grownBy w' (some b)∧∃ r,r <:+ ts ∧
 ((∃ n' v,R (.postL n) (tk ts) (.ok (.nd n') (tk r))∧e=.returned v∧NdV w' (Av w0.heap.size L) n' v∧Wd w0 w' b g m r L)∨(R (.postL n) (tk ts) (.no (tk r))∧e=up r))
theorem Ps.cell1 (h:Ps w b g m ts):w.cell? ⟨b,1,none⟩=some m:=by
 obtain ⟨a,o,c,h1,_⟩:=h.blk
 exact cells_at h1 1
end Go.Proofs.YthcfianhdkolhaaGreatDoor.Y
