/- PbB -/
import Derived.Test.YthcfianhdkolhaaGreatDoorPbA
namespace Go.Proofs.YthcfianhdkolhaaGreatDoor.Y
open Go.RowKit Go.Proofs.YthcfianhdkolhaaGreatDoor.X Go.Proofs.YthcfianhdkolhaaGreatDoor.T Go.Proofs.YthcfianhdkolhaaGreatDoor.S
set_option linter.unusedVariables false
set_option linter.unusedSimpArgs false
variable {w w' : World} {b g : Nat} {m : Value} {ts : List Tok} {t : Tok}
def Meth (F:Nat) (q:G) (b g:Nat) (m:Value) (ts:List Tok):Prop:=∀ w:World,Ps w b g m ts→Two w b m→T.Gl w→g<w.heap.size→Fits ts→ts.length≤4000→Calls Tryz.prog F #[.pointer (some ⟨b,0,none⟩)] w (PostN q w b g m ts)
def Later (F:Nat) (q:G) (b g:Nat) (m:Value) (ts:List Tok):Prop:=∀ r,r <:+ ts→r.length<ts.length→Meth F q b g m r
theorem Later.suf {F:Nat} {q:G} {r:List Tok} (h:Later F q b g m ts) (hr:r <:+ ts):Later F q b g m r:=fun s h1 h2=>h s (h1.trans hr) (Nat.lt_of_lt_of_le h2 hr.length_le)
theorem tail_lt {x:ByteArray} (hx:x.size≠0) (h:tx ts=x):ts.tail.length<ts.length:=by
 obtain ⟨t,r,rfl⟩:=tx_len ts x hx h
 simp
theorem nm_lt (h:nmAt ts 0=true):ts.tail.length<ts.length:=by
 cases ts with
 | nil=>simp [nmAt] at h
 | cons t r=>simp
theorem nm_one (ts:List Tok):nmAt ts 1=nmAt ts.tail 0:=by
 cases ts with
 | nil=>rfl
 | cons t r=>rfl
theorem nm_str (h:Fits ts) (hn:nmAt ts 0=true):tx ts=str (hd (tk ts)):=by
 have e:=nm_hd h
 rw [hn] at e
 cases ts with
 | nil=>simp [nmAt] at hn
 | cons t r=>
  show t.text=str (Tk.txt ⟨t.kind,t.text.data.toList⟩)
  unfold Tk.txt
  by_cases hk:t.kind=2∨t.kind=3
  ·exfalso
   have e':nameB (hd (tk (t::r)))=false:=by
    show nameB (Tk.txt ⟨t.kind,t.text.data.toList⟩)=false
    unfold Tk.txt
    rw [if_pos hk]
    rfl
   rw [e'] at e
   cases e
  ·rw [if_neg hk]
   apply ByteArray.ext
   apply Array.toList_inj.1
   simp [str]
theorem both {g1 g2:G} {t1 t2:List Tk} {r1 r2:Res} (h:R g1 t1 r1) (k:R g2 t2 r2):∃ n,P n g1 t1=some r1∧P n g2 t2=some r2:=by
 obtain ⟨n,e1⟩:=h
 obtain ⟨m,e2⟩:=k
 exact ⟨max n m,P_le (Nat.le_max_left n m) e1,P_le (Nat.le_max_right n m) e2⟩
theorem three {g1 g2 g3:G} {t1 t2 t3:List Tk} {r1 r2 r3:Res} (h:R g1 t1 r1) (k:R g2 t2 r2) (l:R g3 t3 r3):∃ n,P n g1 t1=some r1∧P n g2 t2=some r2∧P n g3 t3=some r3:=by
 obtain ⟨n,e1,e2⟩:=both h k
 obtain ⟨m,e3⟩:=l
 exact ⟨max n m,P_le (Nat.le_max_left n m) e1,P_le (Nat.le_max_left n m) e2,P_le (Nat.le_max_right n m) e3⟩
theorem ask_new' (h:Ps w b g m ts) (q:Nat) (hq:w.heap.size=q) (x:ByteArray) (hx:x.size≠0):Calls Tryz.prog 94 #[.pointer (some ⟨b,0,none⟩),.slice (some ⟨q,0,none⟩) 1 1] (w.alloc (.cells #[.string x] 9)) (Ask1 w b g m ts x):=by
 subst hq
 exact ask_new h x hx
def leftOf (b:Nat) (w:World):Nat:=match w.cell? ⟨b,0,none⟩ with|some (.slice _ n _)=>n|_=>0
theorem Ps.leftOf (h:Ps w b g m ts):leftOf b w=ts.length:=by
 obtain ⟨a,o,c,h1,_⟩:=h.blk
 have e:w.cell? ⟨b,0,none⟩=some (.slice a ts.length c):=cells_at h1 0
 unfold Y.leftOf
 rw [e]
theorem opr_word:∀ j,j<10→Word (opr j).1∧sign (opr j).1=((opr j).2.2,(opr j).2.1):=fun j hj=>by
 have h:j=0∨j=1∨j=2∨j=3∨j=4∨j=5∨j=6∨j=7∨j=8∨j=9:=by omega
 rcases h with rfl|rfl|rfl|rfl|rfl|rfl|rfl|rfl|rfl|rfl<;>exact ⟨⟨_,_,rfl,by decide⟩,by decide⟩
theorem sign_hit {firm:Int} {j:Nat} (hF:Fits ts) (hj:j<10) (h:Hits ts firm j):sign (hd (tk ts))=(firm,(opr j).2.1)∧hd (tk ts)≠[]:=by
 obtain ⟨hw,hs⟩:=opr_word j hj
 have e:=(tx_hd hF (opr j).1 hw).1 h.2
 rw [e,hs,h.1]
 obtain ⟨c,r,e2,_⟩:=hw
 exact ⟨rfl,by rw [e2];simp⟩
theorem sign_none {firm:Int} (hF:Fits ts) (h0:0≤firm) (h:∀ j,j<10→¬ Hits ts firm j):¬ (sign (hd (tk ts))).1=firm:=by
 intro e
 have k:∀ j,j<10→hd (tk ts)=(opr j).1→False:=fun j hj e2=>by
  obtain ⟨hw,hs⟩:=opr_word j hj
  refine h j hj ⟨?_,(tx_hd hF (opr j).1 hw).2 e2⟩
  rw [e2,hs] at e
  exact e
 unfold sign at e
 split at e
 ·exact k 0 (by omega) (by assumption)
 split at e
 ·exact k 1 (by omega) (by assumption)
 split at e
 ·exact k 2 (by omega) (by assumption)
 split at e
 ·exact k 3 (by omega) (by assumption)
 split at e
 ·exact k 4 (by omega) (by assumption)
 split at e
 ·exact k 5 (by omega) (by assumption)
 split at e
 ·exact k 6 (by omega) (by assumption)
 split at e
 ·exact k 7 (by omega) (by assumption)
 split at e
 ·exact k 8 (by omega) (by assumption)
 split at e
 ·exact k 9 (by omega) (by assumption)
 have:(-1:Int)=firm:=e
 omega
theorem step_nd {w:World} {ops:Array Oper} {o:Oper} {a:Act} {K:Act→World→Prop} {Q:Exit→Act→World→Prop} {E:Prop} (p q:Operand) (hgd:o.guard=none)
  (ho:o.op=.call { callee:=.builtin .append,args:=#[p,q],argTypes:=#[22,22] })
  (A A':Nat→Prop) (v:Value) (l:List Nd) (hs:a.eval p=v) (hown:RowN w A v l)
  (B:Nat) (x:Nd) (k t n s:Value) (hx:a.eval q=.slice (some ⟨B,0,none⟩) 1 1) (hB:w.heap[B]?=some (.cells #[k,t,n,s] 24 (0,0))) (h1:k.oneCell'=true∧t.oneCell'=true∧n.oneCell'=true∧s.oneCell'=true) (hnd:NdV w (fun k=>A k∧some k≠v.ownBlock) x (.agg #[k,t,n,s]))
  (hn:l.length≤16000) (hA:∀ k,A k→A' k) (hA':A' w.heap.size)
  (h:∀ g cap w',RowN w' A' (.slice (some ⟨g,0,none⟩) (l.length+1) cap) (l++[x])→w.grownBy w' v.ownBlock→(v.ownBlock=some g∨g=w.heap.size)→g<w'.heap.size→K (a.put o.dst (.slice (some ⟨g,0,none⟩) (l.length+1) cap)) w'):
  if Region.wanted o (yielded ops a.tmps)=true then Oper.wp Tryz.prog o a w K Q else E:=by
 obtain ⟨i0,hi,hz0,hz1,hz2⟩:=info_parts info24
 obtain ⟨cs,c1,c2,c3⟩:=hown.row
 refine step_append_lies w hgd p q 22 ho 0 24 i0 _ 4 56 Tryz.underlying22 hi hz0 hz1 hz2 rfl (by decide) v l.length (cellsN cs) hs c2 ⟨B,0,none⟩ 1 1 [k,t,n,s] hx rfl (World.news_of_block hB) ?_ (by decide) (by unfold maxLen;omega) (by omega) (Nat.zero_le _) w.heap.size rfl ?_
 ·intro u hu
  simp at hu
  rcases hu with rfl|rfl|rfl|rfl
  ·exact h1.1
  ·exact h1.2.1
  ·exact h1.2.2.1
  ·exact h1.2.2.2
 ·intro g cap w' h2 h3 h4 h5
  refine h g cap w' (RowN.put c1 c3 hnd h2 h3 h4 hA ?_) h3 h4 h5
  rcases h4 with e|e
  ·exact hA _ (hown.own g e)
  ·rw [e];exact hA'
theorem app_list {w0 w:World} {ops:Array Oper} {rest:List Oper} {o:Oper} {a:Act} {Q:Exit→Act→World→Prop} (p q:Operand) (hgd:o.guard=none)
  (ho:o.op=.call { callee:=.builtin .append,args:=#[p,q],argTypes:=#[22,22] }) (L1 L2:List Bk) {B s0 s1:Nat} {k t n s v:Value} {l:List Nd} {x:Nd}
  (HW:Wd w0 w b g m ts (L1++(B,#[k,t,n,s],24)::L2)) (HM:RowN w (Av s0 (L1++(B,#[k,t,n,s],24)::L2)) v l) (HN:NdV w (Av s1 (L1++(B,#[k,t,n,s],24)::L2)) x (.agg #[k,t,n,s])) (hz:w0.heap.size≤s0) (hz1:w0.heap.size≤s1) (hk:∀ j,v.ownBlock=some j→j<s1) (hn:l.length≤16000) (h1:k.oneCell'=true∧t.oneCell'=true∧n.oneCell'=true∧s.oneCell'=true)
  (hs:a.eval p=v) (hx:a.eval q=.slice (some ⟨B,0,none⟩) 1 1)
  (h:∀ gg cap w',Wd w0 w' b g m ts (L1++L2)→RowN w' (Av w0.heap.size (L1++L2)) (.slice (some ⟨gg,0,none⟩) (l.length+1) cap) (l++[x])→w.grownBy w' v.ownBlock→wpList Tryz.prog ops Q rest (a.put o.dst (.slice (some ⟨gg,0,none⟩) (l.length+1) cap)) w'):
  wpList Tryz.prog ops Q (o::rest) a w:=by
 refine list_nd p q hgd ho (Av w0.heap.size (L1++(B,#[k,t,n,s],24)::L2)) (Av w0.heap.size (L1++(B,#[k,t,n,s],24)::L2)) v l hs (HM.less hz) B x k t n s hx (HW.blk (B,#[k,t,n,s],24) (by simp)).2 h1 (HN.mono (fun j hj _=>⟨⟨Nat.le_trans hz1 hj.1,hj.2⟩,fun e=>by have:=hk j e.symm;have:=hj.1;omega⟩)) hn (fun _ h=>h) ⟨HW.grown.size,fun y hy=>by have:=HW.lt y hy;omega⟩ ?_
 intro gg cap w' hR hG hat hlt
 exact h gg cap w' ((HW.rowed hG (Nat.le_refl _) (fun j hj=>(HM.less hz).own j hj)).drop L1 L2) ((Mv.drop L1 L2 w').row hR) hG
theorem app_step {w0 w:World} {ops:Array Oper} {o:Oper} {a:Act} {K:Act→World→Prop} {Q:Exit→Act→World→Prop} {E:Prop} (p q:Operand) (hgd:o.guard=none)
  (ho:o.op=.call { callee:=.builtin .append,args:=#[p,q],argTypes:=#[22,22] }) (L1 L2:List Bk) {B s0 s1:Nat} {k t n s v:Value} {l:List Nd} {x:Nd}
  (HW:Wd w0 w b g m ts (L1++(B,#[k,t,n,s],24)::L2)) (HM:RowN w (Av s0 (L1++(B,#[k,t,n,s],24)::L2)) v l) (HN:NdV w (Av s1 (L1++(B,#[k,t,n,s],24)::L2)) x (.agg #[k,t,n,s])) (hz:w0.heap.size≤s0) (hz1:w0.heap.size≤s1) (hk:∀ j,v.ownBlock=some j→j<s1) (hn:l.length≤16000) (h1:k.oneCell'=true∧t.oneCell'=true∧n.oneCell'=true∧s.oneCell'=true)
  (hs:a.eval p=v) (hx:a.eval q=.slice (some ⟨B,0,none⟩) 1 1)
  (h:∀ gg cap w',Wd w0 w' b g m ts (L1++L2)→RowN w' (Av w0.heap.size (L1++L2)) (.slice (some ⟨gg,0,none⟩) (l.length+1) cap) (l++[x])→w.grownBy w' v.ownBlock→K (a.put o.dst (.slice (some ⟨gg,0,none⟩) (l.length+1) cap)) w'):
  if Region.wanted o (yielded ops a.tmps)=true then Oper.wp Tryz.prog o a w K Q else E:=by
 refine step_nd p q hgd ho (Av w0.heap.size (L1++(B,#[k,t,n,s],24)::L2)) (Av w0.heap.size (L1++(B,#[k,t,n,s],24)::L2)) v l hs (HM.less hz) B x k t n s hx (HW.blk (B,#[k,t,n,s],24) (by simp)).2 h1 (HN.mono (fun j hj _=>⟨⟨Nat.le_trans hz1 hj.1,hj.2⟩,fun e=>by have:=hk j e.symm;have:=hj.1;omega⟩)) hn (fun _ h=>h) ⟨HW.grown.size,fun y hy=>by have:=HW.lt y hy;omega⟩ ?_
 intro gg cap w' hR hG hat hlt
 exact h gg cap w' ((HW.rowed hG (Nat.le_refl _) (fun j hj=>(HM.less hz).own j hj)).drop L1 L2) ((Mv.drop L1 L2 w').row hR) hG
theorem app_l0 {w0 w:World} {ops:Array Oper} {rest:List Oper} {o:Oper} {a:Act} {Q:Exit→Act→World→Prop} (p q:Operand) (hgd:o.guard=none)
  (ho:o.op=.call { callee:=.builtin .append,args:=#[p,q],argTypes:=#[22,22] }) {L:List Bk} {B s0 s1:Nat} {k t n s v:Value} {l:List Nd} {x:Nd}
  (HW:Wd w0 w b g m ts ((B,#[k,t,n,s],24)::L)) (HM:RowN w (Av s0 ((B,#[k,t,n,s],24)::L)) v l) (HN:NdV w (Av s1 ((B,#[k,t,n,s],24)::L)) x (.agg #[k,t,n,s])) (hz:w0.heap.size≤s0) (hz1:w0.heap.size≤s1) (hk:∀ j,v.ownBlock=some j→j<s1) (hn:l.length≤16000) (h1:k.oneCell'=true∧t.oneCell'=true∧n.oneCell'=true∧s.oneCell'=true)
  (hs:a.eval p=v) (hx:a.eval q=.slice (some ⟨B,0,none⟩) 1 1)
  (h:∀ gg cap w',Wd w0 w' b g m ts L→RowN w' (Av w0.heap.size L) (.slice (some ⟨gg,0,none⟩) (l.length+1) cap) (l++[x])→w.grownBy w' v.ownBlock→wpList Tryz.prog ops Q rest (a.put o.dst (.slice (some ⟨gg,0,none⟩) (l.length+1) cap)) w'):
  wpList Tryz.prog ops Q (o::rest) a w:=app_list p q hgd ho [] L HW HM HN hz hz1 hk hn h1 hs hx h
theorem app_s0 {w0 w:World} {ops:Array Oper} {o:Oper} {a:Act} {K:Act→World→Prop} {Q:Exit→Act→World→Prop} {E:Prop} (p q:Operand) (hgd:o.guard=none)
  (ho:o.op=.call { callee:=.builtin .append,args:=#[p,q],argTypes:=#[22,22] }) {L:List Bk} {B s0 s1:Nat} {k t n s v:Value} {l:List Nd} {x:Nd}
  (HW:Wd w0 w b g m ts ((B,#[k,t,n,s],24)::L)) (HM:RowN w (Av s0 ((B,#[k,t,n,s],24)::L)) v l) (HN:NdV w (Av s1 ((B,#[k,t,n,s],24)::L)) x (.agg #[k,t,n,s])) (hz:w0.heap.size≤s0) (hz1:w0.heap.size≤s1) (hk:∀ j,v.ownBlock=some j→j<s1) (hn:l.length≤16000) (h1:k.oneCell'=true∧t.oneCell'=true∧n.oneCell'=true∧s.oneCell'=true)
  (hs:a.eval p=v) (hx:a.eval q=.slice (some ⟨B,0,none⟩) 1 1)
  (h:∀ gg cap w',Wd w0 w' b g m ts L→RowN w' (Av w0.heap.size L) (.slice (some ⟨gg,0,none⟩) (l.length+1) cap) (l++[x])→w.grownBy w' v.ownBlock→K (a.put o.dst (.slice (some ⟨gg,0,none⟩) (l.length+1) cap)) w'):
  if Region.wanted o (yielded ops a.tmps)=true then Oper.wp Tryz.prog o a w K Q else E:=app_step p q hgd ho [] L HW HM HN hz hz1 hk hn h1 hs hx h
theorem Wd.okN {w0:World} {L:List Bk} {q:G} {ts0:List Tok} {e:Ending} (HW:Wd w0 w b g m ts L) (HS:ts <:+ ts0) (h:PostN q w b g m ts e w'):
  (∃ r n k t v a l c,e=.returned (.agg #[.int .i64 k,.string t,.int .i64 v,.slice a l c])∧Hid (R q (tk ts) (.ok (.nd n) (tk r)))∧Hid (NdV w' (Av w.heap.size L) n (.agg #[.int .i64 k,.string t,.int .i64 v,.slice a l c]))∧Hid (w0.heap.size≤w.heap.size)∧Hid (r.length<ts0.length)∧Hid (r <:+ ts)∧Hid (r.length<ts.length)∧Hid (r <:+ ts0)∧Hid (Wd w0 w' b g m r L)∧w.grownBy w' (some b)) ∨
  (∃ r,R q (tk ts) (.no (tk r))∧e=up r∧w0.grownBy w' (some b)∧r <:+ ts0):=by
 obtain ⟨hG,r,hr,⟨n,v,hlt,hR,rfl,hN,hP⟩|⟨hR,rfl⟩⟩:=h
 ·obtain ⟨k,t,v',a,l,c,rfl⟩:=hN.form
  exact Or.inl ⟨r,n,k,t,v',a,l,c,rfl,hR,hN.given HW,HW.grown.size,Nat.lt_of_lt_of_le hlt HS.length_le,hr,hlt,hr.trans HS,HW.call hG hP,hG⟩
 ·exact Or.inr ⟨r,hR,rfl,grown_trans HW.grown hG,hr.trans HS⟩
theorem Wd.tkY {w0:World} {L:List Bk} {ts0:List Tok} {x:ByteArray} (HW:Wd w0 w b g m ts L) (HS:ts <:+ ts0) (hz:x.size≠0) (hq:tx ts=x):Calls Tryz.prog 67 #[.pointer (some ⟨b,0,none⟩),.string x] w fun e w'=>e=.returned (.bool true)∧Hid (ts.tail.length<ts0.length)∧Hid (ts.tail.length<ts.length)∧Hid (ts.tail <:+ ts0)∧Hid (Wd w0 w' b g m ts.tail L)∧w.grownBy w' (some b):=
 (takes_any HW.ps x hz).mono fun e w' ⟨he,hP,hG⟩=>by
  rw [if_pos hq] at hP
  rw [decide_eq_true hq] at he
  exact ⟨he,Nat.lt_of_lt_of_le (tail_lt hz hq) HS.length_le,tail_lt hz hq,(List.tail_suffix _).trans HS,HW.call hG hP,hG⟩
theorem Wd.tkN {w0:World} {L:List Bk} {x:ByteArray} (HW:Wd w0 w b g m ts L) (hz:x.size≠0) (hq:¬ tx ts=x):Calls Tryz.prog 67 #[.pointer (some ⟨b,0,none⟩),.string x] w fun e w'=>e=.returned (.bool false)∧Hid (Wd w0 w' b g m ts L)∧w.grownBy w' (some b):=
 (takes_any HW.ps x hz).mono fun e w' ⟨he,hP,hG⟩=>by
  rw [if_neg hq] at hP
  rw [decide_eq_false hq] at he
  exact ⟨he,HW.call hG hP,hG⟩
theorem Wd.ask1 {w0:World} {L:List Bk} {ts0:List Tok} {s:List UInt8} {q:Nat} (HW:Wd w0 w b g m ts L) (HS:ts <:+ ts0) (HF:Fits ts0) (hw:Word s) (hz:(str s).size≠0) (hq:w.heap.size=q):Calls Tryz.prog 94 #[.pointer (some ⟨b,0,none⟩),.slice (some ⟨q,0,none⟩) 1 1] (w.alloc (.cells #[.string (str s)] 9)) fun e w'=>
  (Hid (hd (tk ts)=s)∧e=.returned (.tuple #[])∧Hid (ts.tail.length<ts0.length)∧Hid (ts.tail <:+ ts0)∧Hid (Wd w0 w' b g m ts.tail L)∧w.grownBy w' (some b))∨(¬ hd (tk ts)=s∧e=up ts∧w0.grownBy w' (some b)):=
 (ask_new' HW.ps q hq (str s) hz).mono fun e w' ⟨hG,h⟩=>by
  rcases h with ⟨hq,he,hP⟩|⟨hq,he⟩
  ·exact Or.inl ⟨(tx_hd (HF.suf HS) s hw).1 hq,he,Nat.lt_of_lt_of_le (tail_lt hz hq) HS.length_le,(List.tail_suffix _).trans HS,HW.call hG hP,hG⟩
  ·exact Or.inr ⟨fun e=>hq ((tx_hd (HF.suf HS) s hw).2 e),he,grown_trans HW.grown hG⟩
theorem Wd.nm {w0:World} {L:List Bk} {ts0:List Tok} (HW:Wd w0 w b g m ts L) (HS:ts <:+ ts0) (HF:Fits ts0):Calls Tryz.prog 93 #[.pointer (some ⟨b,0,none⟩)] w fun e w'=>
  (Hid (nameB (hd (tk ts))=true)∧e=.returned (.string (str (hd (tk ts))))∧Hid (ts.tail.length<ts0.length)∧Hid (ts.tail <:+ ts0)∧Hid (Wd w0 w' b g m ts.tail L)∧w.grownBy w' (some b))∨(nameB (hd (tk ts))=false∧e=up ts∧w0.grownBy w' (some b)):=
 (name_any HW.ps (HF.suf HS).short).mono fun e w' h=>by
  rcases h with ⟨hn,he,hP,hG⟩|⟨hn,he,rfl⟩
  ·rw [nm_str (HF.suf HS) hn] at he
   exact Or.inl ⟨(nm_hd (HF.suf HS)).symm.trans hn,he,Nat.lt_of_lt_of_le (nm_lt hn) HS.length_le,(List.tail_suffix _).trans HS,HW.call hG hP,hG⟩
  ·exact Or.inr ⟨(nm_hd (HF.suf HS)).symm.trans hn,he,HW.grown⟩
end Go.Proofs.YthcfianhdkolhaaGreatDoor.Y
