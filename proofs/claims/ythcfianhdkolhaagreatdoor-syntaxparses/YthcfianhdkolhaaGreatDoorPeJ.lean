/- PeO PeI PeJ -/
import Derived.Test.YthcfianhdkolhaaGreatDoorPeN
import Derived.Test.YthcfianhdkolhaaGreatDoorPeF1
import Derived.Test.YthcfianhdkolhaaGreatDoorPbL
import Derived.Test.YthcfianhdkolhaaGreatDoorSign
import Derived.Test.YthcfianhdkolhaaGreatDoorPeH
import Derived.Test.YthcfianhdkolhaaGreatDoorPeG2
namespace Go.Proofs.YthcfianhdkolhaaGreatDoor.Y.Z
open Go.RowKit Go.Proofs.YthcfianhdkolhaaGreatDoor.T Go.Proofs.YthcfianhdkolhaaGreatDoor.S
open Go.Proofs.YthcfianhdkolhaaGreatDoor.X (Tok)
set_option linter.unusedVariables false
set_option linter.unusedSimpArgs false
set_option maxRecDepth 100000
set_option maxHeartbeats 2000000
variable {w w' : World} {b g : Nat} {K ts : List Tok} {β : Bool}
def Num (ts:List Tk) (q:Res):Prop:=number ts=some q
def MthN (b g:Nat) (K:List Tok) (ts:List Tok):Prop:=∀ w β,Rs w b g K β ts→Fits ts→Calls Tryz.prog 34 #[.pointer (some ⟨b,0,none⟩)] w (PoN Num w b g K β ts)
theorem um_dig:∀ (l:List UInt8) (M acc u:Nat),Lib.parseUintM M acc l=.ok u→∀ c,c∈l→48≤c.toNat∧c.toNat≤57
 | [],_,_,_,_,c,hc=>by simp at hc
 | x::r,M,acc,u,h,c,hc=>by
  unfold Lib.parseUintM at h
  by_cases hx:48≤x.toNat∧x.toNat≤57
  ·rw [if_pos hx] at h
   split at h
   ·cases h
   split at h
   ·cases h
   rcases List.mem_cons.1 hc with rfl|hc
   ·exact hx
   exact um_dig r _ _ _ h c hc
  rw [if_neg hx] at h
  cases h
theorem fit_num {t:Tok} (h:Fit t) (hk:t.kind=2∨t.kind=3):(∀ c,c∈t.text.data.toList→48≤c.toNat∧c.toNat≤57)∧digits t.text.data.toList 0≤9223372036854775807∧t.text.size≤4000:=by
 obtain ⟨h1,h2⟩:=h.num hk
 refine ⟨?_,(num_bound h1 h2).2,h.short⟩
 obtain ⟨c,r,e,hc,hc'⟩:=h1
 rw [e] at h2 ⊢
 have n1:¬ (c.toNat=43∨c.toNat=45):=by omega
 simp only [Lib.parseIntB,if_neg n1] at h2
 cases hu:Lib.parseUintB 64 (c::r) with
 | «syntax»=>rw [hu] at h2;cases h2
 | range=>rw [hu] at h2;cases h2
 | ok u=>
  have hu':Lib.parseUintM (2 ^ 64 - 1) 0 (c::r)=.ok u:=by
   have:Lib.parseUintB 64 (c::r)=Lib.parseUintM (2 ^ 64 - 1) 0 (c::r):=by simp [Lib.parseUintB]
   rw [← this];exact hu
  exact um_dig _ _ _ _ hu'
theorem Rs.rd (h:Rs w b g K β ts):∃ i,i≤K.length∧K.drop i=ts∧V.Rd g w b K i β:=by
 obtain ⟨p,a,c,h1,h2,h3⟩:=h.blk
 refine ⟨p.length,by rw [h1];simp,by rw [h1];simp,h.len,by rw [h1];simp,a,c,h2,fun hp=>?_⟩
 have hne:K≠[]:=fun e=>by rw [e] at hp;simp at hp
 obtain ⟨cur,hcur⟩:=h.typ hne
 refine ⟨cur,h3 hne,hcur,fun j k hk=>?_⟩
 obtain ⟨hj,e⟩:=List.getElem?_eq_some_iff.1 hk
 obtain ⟨t1,t2,t3⟩:=h.toks j hj
 rw [Nat.zero_add,cells_at hcur,e] at t1 t2 t3
 exact ⟨t1,t2,t3⟩
theorem Rs.back (h:Rs w b g K β ts) {i:Nat} {β':Bool} (hG:w.grownBy w' (some b)) (hd:V.Rd g w' b K i β'):Rs w' b g K β' (K.drop i):=by
 have hg:w'.heap[g]?=w.heap[g]?:=hG.block g h.gl (fun e=>h.ne (Option.some.inj e))
 obtain ⟨la,lc,h1,h2⟩:=hd.blk
 refine ⟨h.ne,h.len,Nat.lt_of_lt_of_le h.gl hG.size,typ_same h.typ hg,h.toks.same hg,K.take i,la,lc,(List.take_append_drop i K).symm,?_,fun e=>?_⟩
 ·rw [List.length_take,Nat.min_eq_left hd.le]
  exact h1
 obtain ⟨cur,e1,_⟩:=h2 (List.length_pos_iff.2 e)
 exact e1
theorem left_tk (i:Nat):V.left K i=tk (K.drop i):=rfl
theorem number_len {x:Nd} {q:List Tk} {l:List Tk} (h:number l=some (.ok (.nd x) q)):q.length<l.length:=by
 cases l with
 | nil=>cases h
 | cons t r=>
  simp only [number] at h
  split at h
  ·injection h with h;injection h with _ h;subst h;simp
  split at h
  ·injection h with h;injection h with _ h;subst h;simp
  cases h
theorem tk_len (ts:List Tok):(tk ts).length=ts.length:=by simp [tk]
theorem zero_nd (w:World) (A:Nat→Prop):NdV w A (.mk 0 [] 0 []) (.agg #[.int .i64 0,.string ⟨#[]⟩,.int .i64 0,.slice none 0 0]):=NdV.bare 0 [] 0 none 0
theorem suf_drop {i j:Nat} (h:i≤j):K.drop j <:+ K.drop i:=by
 have:K.drop j=(K.drop i).drop (j - i):=by rw [List.drop_drop];congr 1;omega
 rw [this]
 exact List.drop_suffix _ _
theorem num_any:MthN b g K ts:=by
 intro w β h hF
 obtain ⟨i,hi,rfl,hr⟩:=h.rd
 cases β with
 | true=>
  refine (V.number_bad hr).mono ?_
  rintro e w' ⟨hG,v,rfl,rfl,hd⟩
  exact ⟨hG,_,_,true,_,List.suffix_refl _,Or.inl ⟨rfl,rfl,rfl⟩,rfl,zero_nd _ _,h.back hG hd⟩
 | false=>
  have key:Calls Tryz.prog 34 #[.pointer (some ⟨b,0,none⟩)] w (V.PostNum g w b K i):=by
   by_cases hlt:i<K.length
   ·have hm:K[i]∈K.drop i:=by rw [List.drop_eq_getElem_cons hlt];exact List.mem_cons_self
    by_cases k2:K[i].kind=2
    ·obtain ⟨a1,a2,a3⟩:=fit_num (hF _ hm) (Or.inl k2)
     exact V.number_yes2 hr hlt k2 a1 a2 a3
    by_cases k3:K[i].kind=3
    ·obtain ⟨a1,a2,a3⟩:=fit_num (hF _ hm) (Or.inr k3)
     exact V.number_yes3 hr hlt k3 a1 a2 a3
    exact V.number_no hr hlt k2 k3
   exact V.number_end hr (by omega)
  refine key.mono ?_
  rintro e w' ⟨hG,i',v,hi',rfl,⟨x,hn,hN,hd⟩|⟨rfl,hn,hd⟩⟩
  ·have hl:=number_len hn
   rw [left_tk,left_tk,tk_len,tk_len] at hl
   exact ⟨hG,_,_,false,_,suf_drop hi',Or.inr (Or.inl ⟨rfl,rfl,hl,hn⟩),rfl,hN,h.back hG hd⟩
  exact ⟨hG,_,_,true,_,suf_drop hi',Or.inr (Or.inr ⟨rfl,rfl,hn⟩),rfl,zero_nd _ _,h.back hG hd⟩
theorem md_f_round {x:Nd} {β':Bool} {r:List Tok} (h0:hd (tk ts)=sLP) (h:Md (R .round) x false ts β' r):Md (R .first) x false ts β' r:=by
 rcases h.good with ⟨rfl,l,n,e⟩|⟨rfl,n,e⟩
 ·exact Or.inr (Or.inl ⟨rfl,rfl,l,n+1,by simp [P,F,h0,e]⟩)
 exact Or.inr (Or.inr ⟨rfl,rfl,n+1,by simp [P,F,h0,e]⟩)
theorem md_amp {ts:List Tok} {r1:List Tok} {β1:Bool} {x:List UInt8}  (g0:¬ hd (tk ts)=sLP) (gy:hd (tk ts)=sAMP) (h1:Na x false ts.tail β1 r1):Md (R .first) (.mk 26 x 0 []) false ts β1 r1:=by
 rcases h1.good with ⟨rfl,e1,rfl,rfl⟩|⟨rfl,e1,rfl,rfl⟩
 ·refine mok ?_ ?_
  ·have qh_gy:=tail_lt' (s:=sAMP) (by decide) gy
   have q1:=tail_lt' (nm_ne e1) rfl
   simp only [List.length_tail] at *
   omega
  try simp only [tk_tail] at *
  exact ⟨1,by simp [P,F,must,andN,andR,S.name,okN,g0,gy,e1]⟩
 refine mno ?_
 try simp only [tk_tail] at *
 exact ⟨1,by simp [P,F,must,andN,andR,S.name,okN,g0,gy,e1]⟩
theorem md_count {ts:List Tok}   (g0:¬ hd (tk ts)=sLP) (g1:¬ hd (tk ts)=sAMP) (gy:hd (tk ts)=sCOUNT) :Md (R .first) (.mk 33 [] 0 []) false ts false ts.tail:=by
 refine mok ?_ ?_
 ·have qh_gy:=tail_lt' (s:=sCOUNT) (by decide) gy
  simp only [List.length_tail] at *
  omega
 try simp only [tk_tail] at *
 exact ⟨1,by simp [P,F,must,andN,andR,S.name,okN,g0,g1,gy]⟩
theorem md_to0 {ts:List Tok} {r1:List Tok} {β1:Bool} {x:Nd}  (g0:¬ hd (tk ts)=sLP) (g1:¬ hd (tk ts)=sAMP) (g2:¬ hd (tk ts)=sCOUNT) (gy:hd (tk ts)=sINT) (h1:Md (R .round) x false ts.tail β1 r1):Md (R .first) (.mk 30 [] 0 [x]) false ts β1 r1:=by
 rcases h1.good with ⟨rfl,l1,e1⟩|⟨rfl,e1⟩
 ·refine mok ?_ ?_
  ·have qh_gy:=tail_lt' (s:=sINT) (by decide) gy
   have q1:=l1
   simp only [List.length_tail] at *
   omega
  obtain ⟨N0,e1⟩:=e1
  try simp only [tk_tail] at *
  exact ⟨N0+1,by simp [P,F,must,andN,andR,S.name,okN,g0,g1,g2,gy,e1]⟩
 refine mno ?_
 obtain ⟨N0,e1⟩:=e1
 try simp only [tk_tail] at *
 exact ⟨N0+1,by simp [P,F,must,andN,andR,S.name,okN,g0,g1,g2,gy,e1]⟩
theorem md_to1 {ts:List Tok} {r1:List Tok} {β1:Bool} {x:Nd}  (g0:¬ hd (tk ts)=sLP) (g1:¬ hd (tk ts)=sAMP) (g2:¬ hd (tk ts)=sCOUNT) (g3:¬ hd (tk ts)=sINT) (gy:hd (tk ts)=sLONG) (h1:Md (R .round) x false ts.tail β1 r1):Md (R .first) (.mk 31 [] 0 [x]) false ts β1 r1:=by
 rcases h1.good with ⟨rfl,l1,e1⟩|⟨rfl,e1⟩
 ·refine mok ?_ ?_
  ·have qh_gy:=tail_lt' (s:=sLONG) (by decide) gy
   have q1:=l1
   simp only [List.length_tail] at *
   omega
  obtain ⟨N0,e1⟩:=e1
  try simp only [tk_tail] at *
  exact ⟨N0+1,by simp [P,F,must,andN,andR,S.name,okN,g0,g1,g2,g3,gy,e1]⟩
 refine mno ?_
 obtain ⟨N0,e1⟩:=e1
 try simp only [tk_tail] at *
 exact ⟨N0+1,by simp [P,F,must,andN,andR,S.name,okN,g0,g1,g2,g3,gy,e1]⟩
theorem md_to2 {ts:List Tok} {r1:List Tok} {β1:Bool} {x:Nd}  (g0:¬ hd (tk ts)=sLP) (g1:¬ hd (tk ts)=sAMP) (g2:¬ hd (tk ts)=sCOUNT) (g3:¬ hd (tk ts)=sINT) (g4:¬ hd (tk ts)=sLONG) (gy:hd (tk ts)=sEXTRA) (h1:Md (R .round) x false ts.tail β1 r1):Md (R .first) (.mk 34 [] 0 [x]) false ts β1 r1:=by
 rcases h1.good with ⟨rfl,l1,e1⟩|⟨rfl,e1⟩
 ·refine mok ?_ ?_
  ·have qh_gy:=tail_lt' (s:=sEXTRA) (by decide) gy
   have q1:=l1
   simp only [List.length_tail] at *
   omega
  obtain ⟨N0,e1⟩:=e1
  try simp only [tk_tail] at *
  exact ⟨N0+1,by simp [P,F,must,andN,andR,S.name,okN,g0,g1,g2,g3,g4,gy,e1]⟩
 refine mno ?_
 obtain ⟨N0,e1⟩:=e1
 try simp only [tk_tail] at *
 exact ⟨N0+1,by simp [P,F,must,andN,andR,S.name,okN,g0,g1,g2,g3,g4,gy,e1]⟩
structure Fn (ts:List Tok):Prop where
 g0:¬ hd (tk ts)=sLP
 g1:¬ hd (tk ts)=sAMP
 g2:¬ hd (tk ts)=sCOUNT
 g3:¬ hd (tk ts)=sINT
 g4:¬ hd (tk ts)=sLONG
 g5:¬ hd (tk ts)=sEXTRA
theorem md_f_num {x:Nd} {β':Bool} {r:List Tok} (G:Fn ts) (hn:nameB (hd (tk ts))=false) (h:Md Num x false ts β' r):Md (R .first) x false ts β' r:=by
 rcases h.good with ⟨rfl,l,e⟩|⟨rfl,e⟩
 ·exact Or.inr (Or.inl ⟨rfl,rfl,l,1,by simp [P,F,G.g0,G.g1,G.g2,G.g3,G.g4,G.g5,hn];exact e⟩)
 exact Or.inr (Or.inr ⟨rfl,rfl,1,by simp [P,F,G.g0,G.g1,G.g2,G.g3,G.g4,G.g5,hn];exact e⟩)
theorem md_f_name (G:Fn ts) (hn:nameB (hd (tk ts))=true) (h:¬ hd (tk ts.tail)=sLB):Md (R .first) (.mk 23 (hd (tk ts)) 0 []) false ts false ts.tail:=by
 have q:=tail_lt' (nm_ne hn) (rfl:hd (tk ts)=_)
 rw [tk_tail] at h
 exact Or.inr (Or.inl ⟨rfl,rfl,q,1,by simp [P,F,G.g0,G.g1,G.g2,G.g3,G.g4,G.g5,hn,h,okN,tk_tail]⟩)
theorem md_f_make0 (G:Fn ts) (hn:nameB (hd (tk ts))=true) (h:hd (tk ts.tail)=sLB) (h2:hd (tk ts.tail.tail)=sRB):Md (R .first) (.mk 27 (hd (tk ts)) 0 []) false ts false ts.tail.tail.tail:=by
 have q:=tail_lt' (nm_ne hn) (rfl:hd (tk ts)=_)
 have q2:=(List.tail_suffix ts.tail.tail).length_le
 have q3:=(List.tail_suffix ts.tail).length_le
 simp only [tk_tail] at h h2
 exact Or.inr (Or.inl ⟨rfl,rfl,by omega,1,by simp [P,F,G.g0,G.g1,G.g2,G.g3,G.g4,G.g5,hn,h,h2,okN,tk_tail]⟩)
def MI (T:List Tk) (s:List UInt8) (acc:List Nd) (m β:Bool) (r:List Tok):Prop:=(β=true∧R .first T (.no (tk r)))∨(β=false∧m=true∧∀ q,R (.makeL s acc) (tk r) q→R .first T q)∨(β=false∧m=false∧∀ q,must sRB (tk r) (fun r=>okN (.mk 27 s 0 acc) r)=some q→R .first T q)
theorem mi_start (G:Fn ts) (hn:nameB (hd (tk ts))=true) (h:hd (tk ts.tail)=sLB) (h2:¬ hd (tk ts.tail.tail)=sRB):MI (tk ts) (hd (tk ts)) [] true false ts.tail.tail:=by
 refine Or.inr (Or.inl ⟨rfl,rfl,fun q k=>?_⟩)
 obtain ⟨m,k⟩:=k
 simp only [tk_tail] at *
 exact ⟨m+1,by simp [P,F,G.g0,G.g1,G.g2,G.g3,G.g4,G.g5,hn,h,h2,k]⟩
theorem mi_yes {T:List Tk} {s:List UInt8} {acc:List Nd} {r r1:List Tok} {β1:Bool} {x:Nd} (J:∀ q,R (.makeL s acc) (tk r) q→R .first T q) (h1:Md (R .expr) x false r β1 r1) (h2:Eat β1 r1 sCOMMA):MI T s (acc++[x]) true false r1.tail:=by
 obtain ⟨rfl,e2⟩:=h2
 rcases h1.good with ⟨_,_,e1⟩|⟨h,_⟩
 ·refine Or.inr (Or.inl ⟨rfl,rfl,fun q k=>J q ?_⟩)
  obtain ⟨n,e1,k⟩:=both e1 k
  simp only [tk_tail] at *
  exact ⟨n+1,by simp [P,F,andN,e1,e2,k]⟩
 cases h
theorem mi_no {T:List Tk} {s:List UInt8} {acc:List Nd} {r r1:List Tok} {β1:Bool} {x:Nd} (J:∀ q,R (.makeL s acc) (tk r) q→R .first T q) (h1:Md (R .expr) x false r β1 r1) (h2:¬ Eat β1 r1 sCOMMA):MI T s (acc++[x]) false β1 r1:=by
 rcases h1.good with ⟨rfl,_,e1⟩|⟨rfl,e1⟩
 ·have e2:¬ hd (tk r1)=sCOMMA:=fun e=>h2 ⟨rfl,e⟩
  refine Or.inr (Or.inr ⟨rfl,rfl,fun q k=>J q ?_⟩)
  obtain ⟨n,e1⟩:=e1
  exact ⟨n+1,by simp only [P,F,andN,e1,if_neg e2,k]⟩
 refine Or.inl ⟨rfl,J _ ?_⟩
 obtain ⟨n,e1⟩:=e1
 exact ⟨n+1,by simp only [P,F,andN,e1]⟩
theorem mi_end {s:List UInt8} {l:List Nd} {m β β':Bool} {r r':List Tok} (h:MI (tk ts) s l m β r) (hm:m=true→β=true) (hl:Pg β r ts) (h1:Mu sRB β r β' r'):Md (R .first) (.mk 27 s 0 l) false ts β' r':=by
 rcases h with ⟨rfl,e⟩|⟨rfl,rfl,_⟩|⟨rfl,rfl,e⟩
 ·obtain ⟨rfl,rfl⟩:=h1.bad
  exact Or.inr (Or.inr ⟨rfl,rfl,e⟩)
 ·cases hm rfl
 have hl1:=hl rfl
 rcases h1.good with ⟨rfl,e1,rfl⟩|⟨rfl,e1,rfl⟩
 ·have:=(List.tail_suffix r).length_le
  refine Or.inr (Or.inl ⟨rfl,rfl,by omega,?_⟩)
  rw [tk_tail]
  exact e _ (by simp [must,e1,okN])
 exact Or.inr (Or.inr ⟨rfl,rfl,e _ (by simp [must,e1])⟩)
theorem Na.yes {x:List UInt8} {β':Bool} {r:List Tok} (h:Na x false ts β' r) (e:nameB (hd (tk ts))=true):β'=false∧r=ts.tail∧x=hd (tk ts):=by
 rcases h.good with ⟨h1,_,h2,h3⟩|⟨_,h1,_⟩
 ·exact ⟨h1,h2,h3⟩
 rw [e] at h1;cases h1
theorem li_one {n:Nat} {r r1 r2:List Tok} {β1:Bool} {x:Nd} {q:List Tk→Res→Prop} (h:LI ts n false r) (h1:Md q x false r β1 r1) (hs:r2 <:+ r1):LI ts (n+1) β1 r2:=by
 have a:=h.1 rfl
 have c:=hs.length_le
 exact ⟨fun e=>by have d:=h1.prog e;omega,by omega⟩
theorem first_gd (hRn:Gd 73 #[.pointer (some ⟨b,0,none⟩)] .round b g K ts) (hRx:Nx 73 #[.pointer (some ⟨b,0,none⟩)] .round b g K ts) (hE:Nx 53 #[.pointer (some ⟨b,0,none⟩)] .expr b g K ts):Gd 126 #[.pointer (some ⟨b,0,none⟩)] .first b g K ts:=by
 intro w h hF
 have HW:Hid (Wr w w b g K false ts []):=Wr.start h
 have HS:=su ts
 have HF:=ħ hF
 have HRn:=ħ hRn
 have HRx:=ħ hRx
 have HE:=ħ hE
 have HK:Hid (ts.length≤4000):=h.short
 clear hRn hRx hE
 clear h hF
 go_enter Tryz.func126,Tryz.ntmps126
 replace HW:=HW.out.az w.heap.size
 obtain ⟨pp1,pa1,pc1,hx1,hx2,hx3⟩:=HW.out.ps.blk
 have hc1:=cells_at hx2
 clear hx1 hx2 hx3
 go_wp2_with fail
 generalize w.alloc _=w2 at *
 clear hc1
 go_at_call 31
 refine (HW.out.tx 0 (by omega)).mono ?_
 rintro e w3 ⟨rfl,hW,-⟩
 replace HW:=hW
 rw [List.drop_zero]
 by_cases hq:hd (tk ts)=sLP
 ·have HQ0:=ħ hq
  have hq1:((str (hd (tk ts))).toList == [40])=true:=tx_yes hq
  clear hq
  go_wp2_with fail
  clear hq1
  go_at_call 73
  refine (HRn.out w3 HW.out.ps (HF.out.suf HS.out)).mono ?_
  rintro e w4 hp
  obtain ⟨n_x,k_x,t_x,v_x,a_x,l_x,c_x,β4,r4,rfl,HR_x,HN_x,HZ_x,HS_x,HL,hS,hW,-⟩:=HW.out.okN HS.out hp
  replace HW:=hW
  replace HS:=hS
  clear hp
  have hc5:=HW.out.c0
  have hf6:=HW.out.f0
  replace HW:=ħ (HW.out.s0 (.int .i64 k_x) (.string t_x) (.int .i64 v_x) (.slice a_x l_x c_x))
  replace HN_x:=HW.out.ms0.N HN_x
  go_wp2_with fail
  exact HW.out.e HW.out.b0 HS HZ_x HN_x (md_f_round HQ0.out HR_x.out)
 have HQ0:=ħ hq
 have hq1:((str (hd (tk ts))).toList == [40])=false:=tx_no hq
 clear hq
 go_wp2_with fail
 clear hq1
 by_cases hq:Eat false ts sAMP
 ·have HE1:=ħ hq
  clear hq
  go_at_call 27
  refine (HW.out.eatY HS.out (s:=sAMP) (by decide) HE1.out).mono ?_
  rintro e w10 ⟨rfl,HL,hS,hW,-⟩
  replace HW:=hW
  replace HS:=hS
  go_wp2_with fail
  go_at_call 28
  refine (HW.out.nm HS.out HF.out).mono ?_
  rintro e w11 ⟨x_s,β11,r11,rfl,HQ_s,HL,hS,hW,-⟩
  replace HW:=hW
  replace HS:=hS
  have HN_z:Hid (NdV w11 (Av w.heap.size [(w.heap.size,#[.int .i64 0,.string ⟨#[]⟩,.int .i64 0,.slice none 0 0],24)]) (.mk 26 x_s 0 []) (.agg #[.int .i64 26,.string (str x_s),.int .i64 0,.slice none 0 0])):=NdV.bare 26 x_s 0 none 0
  have HZ_z:=zz w
  have hc12:=HW.out.c0
  have hf13:=HW.out.f0
  replace HW:=ħ (HW.out.s0 (.int .i64 26) (.string (str x_s)) (.int .i64 0) (.slice none 0 0))
  replace HN_z:=HW.out.ms0.N HN_z
  go_wp2_with fail
  exact HW.out.e HW.out.b0 HS HZ_z HN_z (md_amp HQ0.out (eat_tt HE1.out) HQ_s.out)
 have HE1:=ħ hq
 clear hq
 go_at_call 27
 refine (HW.out.eatN (s:=sAMP) HE1.out).mono ?_
 rintro e w17 ⟨rfl,hW,-⟩
 replace HW:=hW
 go_wp2_with fail
 by_cases hq:Eat false ts sCOUNT
 ·have HE2:=ħ hq
  clear hq
  go_at_call 27
  refine (HW.out.eatY HS.out (s:=sCOUNT) (by decide) HE2.out).mono ?_
  rintro e w18 ⟨rfl,HL,hS,hW,-⟩
  replace HW:=hW
  replace HS:=hS
  have HN_z:Hid (NdV w18 (Av w.heap.size [(w.heap.size,#[.int .i64 0,.string ⟨#[]⟩,.int .i64 0,.slice none 0 0],24)]) (.mk 33 [] 0 []) (.agg #[.int .i64 33,.string (str []),.int .i64 0,.slice none 0 0])):=NdV.bare 33 [] 0 none 0
  have HZ_z:=zz w
  have hc19:=HW.out.c0
  have hf20:=HW.out.f0
  replace HW:=ħ (HW.out.s0 (.int .i64 33) (.string ⟨#[]⟩) (.int .i64 0) (.slice none 0 0))
  replace HN_z:=HW.out.ms0.N HN_z
  go_wp2_with fail
  exact HW.out.e HW.out.b0 HS HZ_z HN_z (md_count HQ0.out (eat_ff HE1.out) (eat_tt HE2.out))
 have HE2:=ħ hq
 clear hq
 go_at_call 27
 refine (HW.out.eatN (s:=sCOUNT) HE2.out).mono ?_
 rintro e w24 ⟨rfl,hW,-⟩
 replace HW:=hW
 replace HW:=ħ (HW.out.alloc' w24.heap.size (by simp) #[.string ⟨#[105,110,116]⟩,.string ⟨#[108,111,110,103]⟩,.string ⟨#[101,120,116,114,97]⟩] 9)
 replace HW:=ħ (HW.out.alloc' (w24.heap.size+1) (by simp) #[.int .i64 30,.int .i64 31,.int .i64 34] 3)
 go_wp2_with fail
 generalize (w24.alloc _).alloc _=w25 at *
 go_loopw [5] (fun v5 wr=>∃ i:Nat,i≤3∧v5=.int .i64 i∧Hid (Wr w wr b g K false ts [((w24.heap.size+1),#[.int .i64 30,.int .i64 31,.int .i64 34],3),(w24.heap.size,#[.string ⟨#[105,110,116]⟩,.string ⟨#[108,111,110,103]⟩,.string ⟨#[101,120,116,114,97]⟩],9),(w.heap.size,#[.int .i64 0,.string ⟨#[]⟩,.int .i64 0,.slice none 0 0],24)])∧Hid ((1≤i→¬ hd (tk ts)=sINT)∧(2≤i→¬ hd (tk ts)=sLONG)∧(3≤i→¬ hd (tk ts)=sEXTRA))) (fun v5 _=>3 - (intOf v5).toNat)
 case atStart=>exact ⟨0,by omega,rfl,HW,⟨fun h=>absurd h (by omega),fun h=>absurd h (by omega),fun h=>absurd h (by omega)⟩⟩
 case round=>
  obtain ⟨i,hi,rfl,HW,HX⟩:=hrel
  obtain rfl|rfl|rfl|rfl:i=0∨i=1∨i=2∨i=3:=by omega
  all_goals clear hi
  ·have hc46:=HW.out.c1
   go_wp2_with fail
   clear hc46
   by_cases hq:Eat false ts sINT
   ·have HEw:=ħ hq
    clear hq
    go_at_call 27
    refine (HW.out.eatY HS.out (s:=sINT) (by decide) HEw.out).mono ?_
    rintro e w47 ⟨rfl,HL,hS,hW,-⟩
    replace HW:=hW
    replace HS:=hS
    go_wp2_with fail
    go_at_call 73
    refine (HRx.out w47 false ts.tail HS.out HL.out HW.out.ps (HF.out.suf HS.out)).mono ?_
    rintro e w48 hp
    obtain ⟨n_x,k_x,t_x,v_x,a_x,l_x,c_x,β48,r48,rfl,HR_x,HN_x,HZ_x,HS_x,HL,hS,hW,-⟩:=HW.out.okN HS.out hp
    replace HW:=hW
    replace HS:=hS
    clear hp
    replace HW:=HW.out.am w48.heap.size HN_x
    replace HN_x:=HW.out.nA HN_x
    go_wp2_with fail
    generalize w48.alloc _=w49 at *
    replace HN_x:=ħ ((Mv.quiet (grown_drew w49)).nd HN_x.out)
    replace HW:=ħ (HW.out.quiet (grown_drew w49))
    refine wp_region_held_drew (S:=(fun w9=>(∀ o,w9.cell? ⟨(w24.heap.size+1),o,none⟩=#[Value.int .i64 30,.int .i64 31,.int .i64 34][o]?)∧(∀ o,w9.cell? ⟨w48.heap.size,o,none⟩=(#[.int .i64 k_x,.string t_x,.int .i64 v_x,.slice a_x l_x c_x]:Array Value)[o]?))) (by kernel_rfl) (⟨HW.out.c1,HW.out.c0⟩) (fun hHd=>?_)
    generalize w49.drew=w50 at *
    refine tq 0 ?_
    simp only [qq]
    refine tq 1 ?_
    simp only [qq]
    refine tq 2 ?_
    simp only [qq]
    refine tq 3 ?_ (hy:=by (intro w hSw;obtain ⟨hs1,hs2⟩:=hSw;go_simp)<;>with_reducible rfl)
    simp only [qq]
    refine tq 4 ?_ (hy:=by (intro w hSw;obtain ⟨hs1,hs2⟩:=hSw;go_simp)<;>with_reducible rfl)
    simp only [qq]
    refine rq 5 fun K hK=>?_
    replace HW:=HW.out.am w50.heap.size HN_x
    replace HN_x:=HW.out.nA HN_x
    go_simp
    refine hK.out _ _ (⟨HW.out.c2,HW.out.c1⟩) (fun hHd=>?_)
    clear hK K
    try simp only [qq]
    generalize w50.alloc _=w51 at *
    refine tq 6 ?_
    simp only [qq]
    refine rq 7 fun K hK=>?_
    have HM_a:=ħ (Wr.o0 HW.out (HN_x.out.less HZ_x.out))
    have HZ_a:=zz w
    clear HN_x HZ_x
    replace HW:=ħ HW.out.d0
    have HN_z:=ħ (HM_a.out.node 30 [] 0)
    have HZ_z:=HZ_a
    clear HM_a HZ_a
    have hc52:=HW.out.c3
    have hf53:=HW.out.f3
    replace HW:=ħ (HW.out.s3 (.int .i64 30) (.string ⟨#[]⟩) (.int .i64 0) ((.slice (some ⟨w50.heap.size,0,none⟩) 1 1)))
    replace HN_z:=HW.out.ms3.N HN_z
    go_simp
    refine hK.out _ _ (⟨HW.out.c1,HW.out.c0⟩) (fun hHd=>?_)
    clear hK K
    try simp only [qq]
    generalize (((w51.setCell _ _).setCell _ _).setCell _ _).setCell _ _=w54 at *
    clear hc52 hf53
    refine wpAnyH_done (by kernel_rfl) ?_ _
    go_wp2_with fail
    exact HW.out.e HW.out.b3 HS HZ_z HN_z (md_to0 HQ0.out (eat_ff HE1.out) (eat_ff HE2.out) (eat_tt HEw.out) HR_x.out)
   have HEw:=ħ hq
   clear hq
   go_at_call 27
   refine (HW.out.eatN (s:=sINT) HEw.out).mono ?_
   rintro e w57 ⟨rfl,hW,-⟩
   replace HW:=hW
   go_wp2_with fail
   go_roundw
   case rel=>exact ⟨1,by omega,by go_num,HW,⟨fun _=>eat_ff HEw.out,fun h=>absurd h (by omega),fun h=>absurd h (by omega)⟩⟩
   case measure=>simp [intOf]
  ·have hc58:=HW.out.c1
   go_wp2_with fail
   clear hc58
   by_cases hq:Eat false ts sLONG
   ·have HEw:=ħ hq
    clear hq
    go_at_call 27
    refine (HW.out.eatY HS.out (s:=sLONG) (by decide) HEw.out).mono ?_
    rintro e w59 ⟨rfl,HL,hS,hW,-⟩
    replace HW:=hW
    replace HS:=hS
    go_wp2_with fail
    go_at_call 73
    refine (HRx.out w59 false ts.tail HS.out HL.out HW.out.ps (HF.out.suf HS.out)).mono ?_
    rintro e w60 hp
    obtain ⟨n_x,k_x,t_x,v_x,a_x,l_x,c_x,β60,r60,rfl,HR_x,HN_x,HZ_x,HS_x,HL,hS,hW,-⟩:=HW.out.okN HS.out hp
    replace HW:=hW
    replace HS:=hS
    clear hp
    replace HW:=HW.out.am w60.heap.size HN_x
    replace HN_x:=HW.out.nA HN_x
    go_wp2_with fail
    generalize w60.alloc _=w61 at *
    replace HN_x:=ħ ((Mv.quiet (grown_drew w61)).nd HN_x.out)
    replace HW:=ħ (HW.out.quiet (grown_drew w61))
    refine wp_region_held_drew (S:=(fun w9=>(∀ o,w9.cell? ⟨(w24.heap.size+1),o,none⟩=#[Value.int .i64 30,.int .i64 31,.int .i64 34][o]?)∧(∀ o,w9.cell? ⟨w60.heap.size,o,none⟩=(#[.int .i64 k_x,.string t_x,.int .i64 v_x,.slice a_x l_x c_x]:Array Value)[o]?))) (by kernel_rfl) (⟨HW.out.c1,HW.out.c0⟩) (fun hHd=>?_)
    generalize w61.drew=w62 at *
    refine tq 0 ?_
    simp only [qq]
    refine tq 1 ?_
    simp only [qq]
    refine tq 2 ?_
    simp only [qq]
    refine tq 3 ?_ (hy:=by (intro w hSw;obtain ⟨hs1,hs2⟩:=hSw;go_simp)<;>with_reducible rfl)
    simp only [qq]
    refine tq 4 ?_ (hy:=by (intro w hSw;obtain ⟨hs1,hs2⟩:=hSw;go_simp)<;>with_reducible rfl)
    simp only [qq]
    refine rq 5 fun K hK=>?_
    replace HW:=HW.out.am w62.heap.size HN_x
    replace HN_x:=HW.out.nA HN_x
    go_simp
    refine hK.out _ _ (⟨HW.out.c2,HW.out.c1⟩) (fun hHd=>?_)
    clear hK K
    try simp only [qq]
    generalize w62.alloc _=w63 at *
    refine tq 6 ?_
    simp only [qq]
    refine rq 7 fun K hK=>?_
    have HM_a:=ħ (Wr.o0 HW.out (HN_x.out.less HZ_x.out))
    have HZ_a:=zz w
    clear HN_x HZ_x
    replace HW:=ħ HW.out.d0
    have HN_z:=ħ (HM_a.out.node 31 [] 0)
    have HZ_z:=HZ_a
    clear HM_a HZ_a
    have hc64:=HW.out.c3
    have hf65:=HW.out.f3
    replace HW:=ħ (HW.out.s3 (.int .i64 31) (.string ⟨#[]⟩) (.int .i64 0) ((.slice (some ⟨w62.heap.size,0,none⟩) 1 1)))
    replace HN_z:=HW.out.ms3.N HN_z
    go_simp
    refine hK.out _ _ (⟨HW.out.c1,HW.out.c0⟩) (fun hHd=>?_)
    clear hK K
    try simp only [qq]
    generalize (((w63.setCell _ _).setCell _ _).setCell _ _).setCell _ _=w66 at *
    clear hc64 hf65
    refine wpAnyH_done (by kernel_rfl) ?_ _
    go_wp2_with fail
    exact HW.out.e HW.out.b3 HS HZ_z HN_z (md_to1 HQ0.out (eat_ff HE1.out) (eat_ff HE2.out) (HX.out.1 (by omega)) (eat_tt HEw.out) HR_x.out)
   have HEw:=ħ hq
   clear hq
   go_at_call 27
   refine (HW.out.eatN (s:=sLONG) HEw.out).mono ?_
   rintro e w69 ⟨rfl,hW,-⟩
   replace HW:=hW
   go_wp2_with fail
   go_roundw
   case rel=>exact ⟨2,by omega,by go_num,HW,⟨fun _=>HX.out.1 (by omega),fun _=>eat_ff HEw.out,fun h=>absurd h (by omega)⟩⟩
   case measure=>simp [intOf]
  ·have hc70:=HW.out.c1
   go_wp2_with fail
   clear hc70
   by_cases hq:Eat false ts sEXTRA
   ·have HEw:=ħ hq
    clear hq
    go_at_call 27
    refine (HW.out.eatY HS.out (s:=sEXTRA) (by decide) HEw.out).mono ?_
    rintro e w71 ⟨rfl,HL,hS,hW,-⟩
    replace HW:=hW
    replace HS:=hS
    go_wp2_with fail
    go_at_call 73
    refine (HRx.out w71 false ts.tail HS.out HL.out HW.out.ps (HF.out.suf HS.out)).mono ?_
    rintro e w72 hp
    obtain ⟨n_x,k_x,t_x,v_x,a_x,l_x,c_x,β72,r72,rfl,HR_x,HN_x,HZ_x,HS_x,HL,hS,hW,-⟩:=HW.out.okN HS.out hp
    replace HW:=hW
    replace HS:=hS
    clear hp
    replace HW:=HW.out.am w72.heap.size HN_x
    replace HN_x:=HW.out.nA HN_x
    go_wp2_with fail
    generalize w72.alloc _=w73 at *
    replace HN_x:=ħ ((Mv.quiet (grown_drew w73)).nd HN_x.out)
    replace HW:=ħ (HW.out.quiet (grown_drew w73))
    refine wp_region_held_drew (S:=(fun w9=>(∀ o,w9.cell? ⟨(w24.heap.size+1),o,none⟩=#[Value.int .i64 30,.int .i64 31,.int .i64 34][o]?)∧(∀ o,w9.cell? ⟨w72.heap.size,o,none⟩=(#[.int .i64 k_x,.string t_x,.int .i64 v_x,.slice a_x l_x c_x]:Array Value)[o]?))) (by kernel_rfl) (⟨HW.out.c1,HW.out.c0⟩) (fun hHd=>?_)
    generalize w73.drew=w74 at *
    refine tq 0 ?_
    simp only [qq]
    refine tq 1 ?_
    simp only [qq]
    refine tq 2 ?_
    simp only [qq]
    refine tq 3 ?_ (hy:=by (intro w hSw;obtain ⟨hs1,hs2⟩:=hSw;go_simp)<;>with_reducible rfl)
    simp only [qq]
    refine tq 4 ?_ (hy:=by (intro w hSw;obtain ⟨hs1,hs2⟩:=hSw;go_simp)<;>with_reducible rfl)
    simp only [qq]
    refine rq 5 fun K hK=>?_
    replace HW:=HW.out.am w74.heap.size HN_x
    replace HN_x:=HW.out.nA HN_x
    go_simp
    refine hK.out _ _ (⟨HW.out.c2,HW.out.c1⟩) (fun hHd=>?_)
    clear hK K
    try simp only [qq]
    generalize w74.alloc _=w75 at *
    refine tq 6 ?_
    simp only [qq]
    refine rq 7 fun K hK=>?_
    have HM_a:=ħ (Wr.o0 HW.out (HN_x.out.less HZ_x.out))
    have HZ_a:=zz w
    clear HN_x HZ_x
    replace HW:=ħ HW.out.d0
    have HN_z:=ħ (HM_a.out.node 34 [] 0)
    have HZ_z:=HZ_a
    clear HM_a HZ_a
    have hc76:=HW.out.c3
    have hf77:=HW.out.f3
    replace HW:=ħ (HW.out.s3 (.int .i64 34) (.string ⟨#[]⟩) (.int .i64 0) ((.slice (some ⟨w74.heap.size,0,none⟩) 1 1)))
    replace HN_z:=HW.out.ms3.N HN_z
    go_simp
    refine hK.out _ _ (⟨HW.out.c1,HW.out.c0⟩) (fun hHd=>?_)
    clear hK K
    try simp only [qq]
    generalize (((w75.setCell _ _).setCell _ _).setCell _ _).setCell _ _=w78 at *
    clear hc76 hf77
    refine wpAnyH_done (by kernel_rfl) ?_ _
    go_wp2_with fail
    exact HW.out.e HW.out.b3 HS HZ_z HN_z (md_to2 HQ0.out (eat_ff HE1.out) (eat_ff HE2.out) (HX.out.1 (by omega)) (HX.out.2.1 (by omega)) (eat_tt HEw.out) HR_x.out)
   have HEw:=ħ hq
   clear hq
   go_at_call 27
   refine (HW.out.eatN (s:=sEXTRA) HEw.out).mono ?_
   rintro e w81 ⟨rfl,hW,-⟩
   replace HW:=hW
   go_wp2_with fail
   go_roundw
   case rel=>exact ⟨3,by omega,by go_num,HW,⟨fun _=>HX.out.1 (by omega),fun _=>HX.out.2.1 (by omega),fun _=>eat_ff HEw.out⟩⟩
   case measure=>simp [intOf]
  go_wp2_with fail
  replace HW:=ħ HW.out.d0
  replace HW:=ħ HW.out.d0
  have HG:Hid (Fn ts):=⟨HQ0.out,eat_ff HE1.out,eat_ff HE2.out,HX.out.1 (by omega),HX.out.2.1 (by omega),HX.out.2.2 (by omega)⟩
  clear HX
  go_at_call 51
  refine (HW.out.isn HS.out HF.out 0 (by omega)).mono ?_
  rintro e w82 ⟨rfl,hW,-⟩
  replace HW:=hW
  rw [List.drop_zero]
  cases hn:nameB (hd (tk ts)) with
  | false=>
   have HNm:=ħ hn
   clear hn
   go_wp2_with fail
   go_at_call 34
   refine (num_any (b:=b) (g:=g) (K:=K) w82 false HW.out.ps (HF.out.suf HS.out)).mono ?_
   rintro e w83 hp
   obtain ⟨n_x,k_x,t_x,v_x,a_x,l_x,c_x,β83,r83,rfl,HR_x,HN_x,HZ_x,HS_x,HL,hS,hW,-⟩:=HW.out.okN HS.out hp
   replace HW:=hW
   replace HS:=hS
   clear hp
   have hc84:=HW.out.c0
   have hf85:=HW.out.f0
   replace HW:=ħ (HW.out.s0 (.int .i64 k_x) (.string t_x) (.int .i64 v_x) (.slice a_x l_x c_x))
   replace HN_x:=HW.out.ms0.N HN_x
   go_wp2_with fail
   exact HW.out.e HW.out.b0 HS HZ_x HN_x (md_f_num HG.out HNm.out HR_x.out)
  | true=>
   have HNm:=ħ hn
   clear hn
   go_wp2_with fail
   go_at_call 28
   refine (HW.out.nm HS.out HF.out).mono ?_
   rintro e w89 ⟨x_s,β89,r89,rfl,HQ_s,HL,hS,hW,-⟩
   replace HW:=hW
   replace HS:=hS
   obtain ⟨rfl,rfl,rfl⟩:=HQ_s.out.yes HNm.out
   replace HW:=HW.out.al w89.heap.size #[.int .i64 23,.string (str (hd (tk ts))),.int .i64 0,.slice none 0 0]
   go_wp2_with fail
   generalize w89.alloc _=w90 at *
   by_cases hq:Eat false ts.tail sLB
   ·have HE4:=ħ hq
    clear hq
    go_at_call 27
    refine (HW.out.eatY HS.out (s:=sLB) (by decide) HE4.out).mono ?_
    rintro e w91 ⟨rfl,HL,hS,hW,-⟩
    replace HW:=hW
    replace HS:=hS
    have hc92:=HW.out.c0
    have hf93:=HW.out.f0
    replace HW:=ħ (HW.out.p00 (.int .i64 27))
    go_wp2_with fail
    generalize w91.setCell _ _=w94 at *
    clear hc92 hf93
    by_cases hq:Eat false ts.tail.tail sRB
    ·have HE5:=ħ hq
     clear hq
     go_at_call 27
     refine (HW.out.eatY HS.out (s:=sRB) (by decide) HE5.out).mono ?_
     rintro e w95 ⟨rfl,HL,hS,hW,-⟩
     replace HW:=hW
     replace HS:=hS
     have HN_z:Hid (NdV w95 (Av w.heap.size [(w89.heap.size,#[.int .i64 27,.string (str (hd (tk ts))),.int .i64 0,.slice none 0 0],24),(w.heap.size,#[.int .i64 0,.string ⟨#[]⟩,.int .i64 0,.slice none 0 0],24)]) (.mk 27 (hd (tk ts)) 0 []) (.agg #[.int .i64 27,.string (str (hd (tk ts))),.int .i64 0,.slice none 0 0])):=NdV.bare 27 (hd (tk ts)) 0 none 0
     have HZ_z:=zz w
     have hc96:=HW.out.c0
     have hc97:=HW.out.c1
     have hf98:=HW.out.f1
     replace HW:=ħ (HW.out.s1 (.int .i64 27) (.string (str (hd (tk ts)))) (.int .i64 0) (.slice none 0 0))
     replace HN_z:=HW.out.ms1.N HN_z
     go_wp2_with fail
     exact HW.out.e HW.out.b1 HS HZ_z HN_z (md_f_make0 HG.out HNm.out (eat_tt HE4.out) (eat_tt HE5.out))
    have HE5:=ħ hq
    clear hq
    go_at_call 27
    refine (HW.out.eatN (s:=sRB) HE5.out).mono ?_
    rintro e w102 ⟨rfl,hW,-⟩
    replace HW:=hW
    go_wp2_with fail
    go_loopw [8] (fun v8 wr=>∃ (r:List Tok) (β m:Bool) (l:List Nd) (a0:Option Addr) (n0 c0:Nat),v8=.bool m∧Hid (Wr w wr b g K β r [(w89.heap.size,#[.int .i64 27,.string (str (hd (tk ts))),.int .i64 0,.slice a0 n0 c0],24),(w.heap.size,#[.int .i64 0,.string ⟨#[]⟩,.int .i64 0,.slice none 0 0],24)])∧Hid (RowN wr (Av w.heap.size [(w89.heap.size,#[.int .i64 27,.string (str (hd (tk ts))),.int .i64 0,.slice a0 n0 c0],24),(w.heap.size,#[.int .i64 0,.string ⟨#[]⟩,.int .i64 0,.slice none 0 0],24)]) (.slice a0 n0 c0) l)∧Hid (r <:+ ts)∧Hid (Pg β r ts)∧Hid (LI ts l.length β r)∧Hid (MI (tk ts) (hd (tk ts)) l m β r)) (fun _ wr=>leftR b wr)
    case atStart=>exact ⟨_,_,_,[],_,_,_,rfl,HW,RowN.nil _ _,HS,HL,(⟨fun _=>by have h0:=HL.out rfl;show 0+_+1≤_;omega,Nat.zero_le _⟩:LI _ _ _ _),mi_start HG.out HNm.out (eat_tt HE4.out) (eat_ff HE5.out)⟩
    case round=>
     obtain ⟨r,β,m,l,a0,n0,c0,rfl,HW,HM_l,HS,HL,HLi,HI⟩:=hrel
     have HZ_l:=zz w
     have HG_l:Hid (l.length≤4000):=Nat.le_trans HLi.out.2 HK.out
     have hmu:=HW.out.ps.leftR
     have HMu:=ħ hmu
     clear hmu
     rcases HI.out with ⟨rfl,hA⟩|⟨rfl,rfl,hJ⟩|⟨rfl,rfl,hC⟩
     ·clear hA
      have HL0:=HL
      cases m with
      | false=>
       obtain ⟨pp123,pa123,pc123,hx1,hx2,hx3⟩:=HW.out.ps.blk
       have hc123:=cells_at hx2
       clear hx1 hx2 hx3
       go_wp2_with fail
       clear hc123
       go_at_call 29
       refine (HW.out.mu HS.out (s:=sRB) (by decide)).mono ?_
       rintro e w124 ⟨mv124,β124,r124,rfl,HQ3,HL,hS,hW,hG⟩
       replace HM_l:=HW.out.kR HZ_l hG HM_l
       replace HW:=hW
       replace HS:=hS
       clear hG
       have HN_z:=ħ (HM_l.out.node 27 (hd (tk ts)) 0)
       have HZ_z:=HZ_l
       clear HM_l HZ_l
       have hc125:=HW.out.c0
       have hc126:=HW.out.c1
       have hf127:=HW.out.f1
       replace HW:=ħ (HW.out.s1 (.int .i64 27) (.string (str (hd (tk ts)))) (.int .i64 0) (.slice a0 n0 c0))
       replace HN_z:=HW.out.ms1.N HN_z
       go_wp2_with fail
       exact HW.out.e HW.out.b1 HS HZ_z HN_z (mi_end HI.out (fun _=>rfl) HL0.out HQ3.out)
      | true=>
       obtain ⟨pp131,pa131,pc131,hx1,hx2,hx3⟩:=HW.out.ps.blk
       have hc131:=cells_at hx2
       clear hx1 hx2 hx3
       go_wp2_with fail
       clear hc131
       go_at_call 29
       refine (HW.out.mu HS.out (s:=sRB) (by decide)).mono ?_
       rintro e w132 ⟨mv132,β132,r132,rfl,HQ3,HL,hS,hW,hG⟩
       replace HM_l:=HW.out.kR HZ_l hG HM_l
       replace HW:=hW
       replace HS:=hS
       clear hG
       have HN_z:=ħ (HM_l.out.node 27 (hd (tk ts)) 0)
       have HZ_z:=HZ_l
       clear HM_l HZ_l
       have hc133:=HW.out.c0
       have hc134:=HW.out.c1
       have hf135:=HW.out.f1
       replace HW:=ħ (HW.out.s1 (.int .i64 27) (.string (str (hd (tk ts)))) (.int .i64 0) (.slice a0 n0 c0))
       replace HN_z:=HW.out.ms1.N HN_z
       go_wp2_with fail
       exact HW.out.e HW.out.b1 HS HZ_z HN_z (mi_end HI.out (fun _=>rfl) HL0.out HQ3.out)
     ·have HJ:=ħ hJ
      clear hJ HI
      obtain ⟨pp123,pa123,pc123,hx1,hx2,hx3⟩:=HW.out.ps.blk
      have hc123:=cells_at hx2
      clear hx1 hx2 hx3
      go_wp2_with fail
      clear hc123
      go_at_call 53
      refine (HE.out wr false r HS.out HL.out HW.out.ps (HF.out.suf HS.out)).mono ?_
      rintro e w124 hp
      obtain ⟨n_y,k_y,t_y,v_y,a_y,l_y,c_y,β124,r124,rfl,HR_y,HN_y,HZ_y,HS_y,HL,hS,hW,hG⟩:=HW.out.okN HS.out hp
      have HO_l:=ħ HM_l.out.lt
      replace HM_l:=HW.out.kR HZ_l hG HM_l
      replace HW:=hW
      replace HS:=hS
      clear hG hp
      replace HW:=HW.out.am w124.heap.size HN_y
      replace HN_y:=HW.out.nA HN_y
      replace HM_l:=HW.out.rA HM_l
      have hc125:=HW.out.c0
      have hc126:=HW.out.c1
      have hc127:=HW.out.c2
      replace HW:=HW.out.am (w124.heap.size+1) HN_y
      replace HN_y:=HW.out.nA HN_y
      replace HM_l:=HW.out.rA HM_l
      have hc128:=HW.out.c0
      have hc129:=HW.out.c1
      have hc130:=HW.out.c2
      have hc131:=HW.out.c3
      go_wp2_with (at_builtin;refine app_l0 _ _ rfl rfl HW.out HM_l.out HN_y.out HZ_l.out HZ_y.out HO_l.out (by have:=HG_l.out;omega) ⟨rfl,rfl,rfl,rfl⟩ ?e1 ?e2 ?_;(case e1=>rfl);(case e2=>rfl);skip)
      intro g132 c132 w132 hW hM hG
      clear HM_l HN_y HZ_l HZ_y HO_l
      replace HW:=ħ hW
      have HM_l2:=ħ hM
      have HZ_l2:=zz w
      clear hW hM hG
      have hc133:=HW.out.c1
      have hf134:=HW.out.f1
      replace HW:=ħ (HW.out.p13 ((.slice (some ⟨g132,0,none⟩) (l.length+1) c132)))
      replace HM_l2:=HW.out.mp13.R HM_l2
      go_wp2_with fail
      generalize w132.setCell _ _=w135 at *
      clear hc133 hf134
      by_cases hq:Eat β124 r124 sCOMMA
      ·have HEc:=ħ hq
       clear hq
       go_at_call 27
       refine (HW.out.eatY HS.out (s:=sCOMMA) (by decide) HEc.out).mono ?_
       rintro e w136 ⟨rfl,HL,hS,hW,hG⟩
       replace HM_l2:=HW.out.kR HZ_l2 hG HM_l2
       replace HW:=hW
       replace HS:=hS
       clear hG
       go_wp2_with fail
       replace HM_l2:=(Mv.d0 _).R HM_l2
       replace HW:=ħ HW.out.d0
       go_roundw
       case rel=>exact ⟨_,_,_,_,_,_,_,rfl,HW,HM_l2,HS,HL,(by rw [List.length_append,List.length_singleton];have h:=li_one HLi.out HR_y.out (List.tail_suffix _);rw [HEc.out.1] at h;exact h:LI _ _ _ _),mi_yes HJ.out HR_y.out HEc.out⟩
       case measure=>rw [HW.out.ps.leftR,HMu.out];exact less_left (Nat.le_trans (List.tail_suffix _).length_le HS_y.out.length_le) (fun _=>Nat.lt_of_le_of_lt (List.tail_suffix _).length_le (HR_y.out.prog HEc.out.1))
      have HEc:=ħ hq
      clear hq
      go_at_call 27
      refine (HW.out.eatN (s:=sCOMMA) HEc.out).mono ?_
      rintro e w137 ⟨rfl,hW,hG⟩
      replace HM_l2:=HW.out.kR HZ_l2 hG HM_l2
      replace HW:=hW
      clear hG
      go_wp2_with fail
      replace HM_l2:=(Mv.d0 _).R HM_l2
      replace HW:=ħ HW.out.d0
      go_roundw
      case rel=>exact ⟨_,_,_,_,_,_,_,rfl,HW,HM_l2,HS,HL,(by rw [List.length_append,List.length_singleton];exact li_one HLi.out HR_y.out (List.suffix_refl _):LI _ _ _ _),mi_no HJ.out HR_y.out HEc.out⟩
      case measure=>rw [HW.out.ps.leftR,HMu.out];exact less_left HS_y.out.length_le HR_y.out.prog
     clear hC
     have HL0:=HL
     obtain ⟨pp138,pa138,pc138,hx1,hx2,hx3⟩:=HW.out.ps.blk
     have hc138:=cells_at hx2
     clear hx1 hx2 hx3
     go_wp2_with fail
     clear hc138
     go_at_call 29
     refine (HW.out.mu HS.out (s:=sRB) (by decide)).mono ?_
     rintro e w139 ⟨mv139,β139,r139,rfl,HQ3,HL,hS,hW,hG⟩
     replace HM_l:=HW.out.kR HZ_l hG HM_l
     replace HW:=hW
     replace HS:=hS
     clear hG
     have HN_z:=ħ (HM_l.out.node 27 (hd (tk ts)) 0)
     have HZ_z:=HZ_l
     clear HM_l HZ_l
     have hc140:=HW.out.c0
     have hc141:=HW.out.c1
     have hf142:=HW.out.f1
     replace HW:=ħ (HW.out.s1 (.int .i64 27) (.string (str (hd (tk ts)))) (.int .i64 0) (.slice a0 n0 c0))
     replace HN_z:=HW.out.ms1.N HN_z
     go_wp2_with fail
     exact HW.out.e HW.out.b1 HS HZ_z HN_z (mi_end HI.out (fun h=>by cases h) HL0.out HQ3.out)
   have HE4:=ħ hq
   clear hq
   go_at_call 27
   refine (HW.out.eatN (s:=sLB) HE4.out).mono ?_
   rintro e w138 ⟨rfl,hW,-⟩
   replace HW:=hW
   have HN_z:Hid (NdV w138 (Av w.heap.size [(w89.heap.size,#[.int .i64 23,.string (str (hd (tk ts))),.int .i64 0,.slice none 0 0],24),(w.heap.size,#[.int .i64 0,.string ⟨#[]⟩,.int .i64 0,.slice none 0 0],24)]) (.mk 23 (hd (tk ts)) 0 []) (.agg #[.int .i64 23,.string (str (hd (tk ts))),.int .i64 0,.slice none 0 0])):=NdV.bare 23 (hd (tk ts)) 0 none 0
   have HZ_z:=zz w
   have hc139:=HW.out.c0
   have hc140:=HW.out.c1
   have hf141:=HW.out.f1
   replace HW:=ħ (HW.out.s1 (.int .i64 23) (.string (str (hd (tk ts)))) (.int .i64 0) (.slice none 0 0))
   replace HN_z:=HW.out.ms1.N HN_z
   go_wp2_with fail
   exact HW.out.e HW.out.b1 HS HZ_z HN_z (md_f_name HG.out HNm.out (eat_ff HE4.out))
theorem Nx.all {F:Nat} {av:Array Value} {q:G} (h:∀ ts,Mth F av q b g K ts):Nx F av q b g K ts:=fun w β r _ _ hR hF=>h r w β hR hF
theorem NxR.all {F:Nat} {av:Array Value} {q:G} (h:∀ ts,MthR F av q b g K ts):NxR F av q b g K ts:=fun w β r _ _ hR hF=>h r w β hR hF
theorem typ_all:∀ (n:Nat) (ts:List Tok),ts.length=n→Mth 30 #[.pointer (some ⟨b,0,none⟩)] .typ b g K ts∧MthR 32 #[.pointer (some ⟨b,0,none⟩),.int .i64 0] (.rows 0) b g K ts:=by
 intro n
 induction n using Nat.strongRecOn with
 | ind n ih=>
  intro ts hn
  have hT:Nx 30 #[.pointer (some ⟨b,0,none⟩)] .typ b g K ts:=Nx.mk typ_bad fun r h=>(ih r.length (by omega) r rfl).1
  have hR:NxR 32 #[.pointer (some ⟨b,0,none⟩),.int .i64 0] (.rows 0) b g K ts:=NxR.mk (rows_bad 0) fun r h=>(ih r.length (by omega) r rfl).2
  exact ⟨Mth.mk typ_bad (typ_gd hR hT),MthR.mk (rows_bad 0) (rows0_gd hT)⟩
theorem typ_any (ts:List Tok):Mth 30 #[.pointer (some ⟨b,0,none⟩)] .typ b g K ts:=(typ_all _ ts rfl).1
theorem rows1_any (ts:List Tok):MthR 32 #[.pointer (some ⟨b,0,none⟩),.int .i64 1] (.rows 1) b g K ts:=MthR.mk (rows_bad 1) (rows1_gd (Nx.all typ_any))
structure EX (b g:Nat) (K ts:List Tok):Prop where
 ex:Mth 53 #[.pointer (some ⟨b,0,none⟩)] .expr b g K ts
 un:Mth 101 #[.pointer (some ⟨b,0,none⟩)] .unary b g K ts
 ro:Mth 73 #[.pointer (some ⟨b,0,none⟩)] .round b g K ts
 rw:MthR 32 #[.pointer (some ⟨b,0,none⟩),.int .i64 2] (.rows 2) b g K ts
 b1:Mth 72 #[.pointer (some ⟨b,0,none⟩),.int .i64 1] (.bound 1) b g K ts
 b2:Mth 72 #[.pointer (some ⟨b,0,none⟩),.int .i64 2] (.bound 2) b g K ts
 b3:Mth 72 #[.pointer (some ⟨b,0,none⟩),.int .i64 3] (.bound 3) b g K ts
theorem expr_all:∀ (n:Nat) (ts:List Tok),ts.length=n→EX b g K ts:=by
 intro n
 induction n using Nat.strongRecOn with
 | ind n ih=>
  intro ts hn
  have I:∀ r:List Tok,r.length<ts.length→EX b g K r:=fun r h=>ih r.length (by omega) r rfl
  have hE:Nx 53 #[.pointer (some ⟨b,0,none⟩)] .expr b g K ts:=Nx.mk expr_bad fun r h=>(I r h).ex
  have hU:Nx 101 #[.pointer (some ⟨b,0,none⟩)] .unary b g K ts:=Nx.mk unary_bad fun r h=>(I r h).un
  have hO:Nx 73 #[.pointer (some ⟨b,0,none⟩)] .round b g K ts:=Nx.mk (round_bad expr_bad) fun r h=>(I r h).ro
  have hR:NxR 32 #[.pointer (some ⟨b,0,none⟩),.int .i64 2] (.rows 2) b g K ts:=NxR.mk (rows_bad 2) fun r h=>(I r h).rw
  have h1:Nx 72 #[.pointer (some ⟨b,0,none⟩),.int .i64 1] (.bound 1) b g K ts:=Nx.mk bound1_bad fun r h=>(I r h).b1
  have h2:Nx 72 #[.pointer (some ⟨b,0,none⟩),.int .i64 2] (.bound 2) b g K ts:=Nx.mk bound2_bad fun r h=>(I r h).b2
  have h3:Nx 72 #[.pointer (some ⟨b,0,none⟩),.int .i64 3] (.bound 3) b g K ts:=Nx.mk bound3_bad fun r h=>(I r h).b3
  have first:=Mth.mk first_bad (first_gd (round_gd hE) hO hE)
  have un:=Mth.mk unary_bad (unary_gd hU first hR)
  have b3:=Mth.mk bound3_bad (bound3_gd un)
  have b2:=Mth.mk bound2_bad (bound2_gd b3 h3)
  have b1:=Mth.mk bound1_bad (bound1_gd b2 h2)
  have b0:=Mth.mk bound0_bad (bound0_gd b1 h1)
  exact ⟨Mth.mk expr_bad (expr_gd b0),un,Mth.mk (round_bad expr_bad) (round_gd hE),MthR.mk (rows_bad 2) (rows2_gd hE),b1,b2,b3⟩
theorem expr_any (ts:List Tok):Mth 53 #[.pointer (some ⟨b,0,none⟩)] .expr b g K ts:=(expr_all _ ts rfl).ex
theorem round_any (ts:List Tok):Mth 73 #[.pointer (some ⟨b,0,none⟩)] .round b g K ts:=(expr_all _ ts rfl).ro
theorem rows2_any (ts:List Tok):MthR 32 #[.pointer (some ⟨b,0,none⟩),.int .i64 2] (.rows 2) b g K ts:=(expr_all _ ts rfl).rw
end Go.Proofs.YthcfianhdkolhaaGreatDoor.Y.Z
