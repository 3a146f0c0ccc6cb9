/- SynSpec2 SynDig -/
import Derived.Test.YthcfianhdkolhaaGreatDoorSynSpec
import Derived.Test.YthcfianhdkolhaaGreatDoorSynIsU
namespace Go.Proofs.YthcfianhdkolhaaGreatDoor.S
set_option linter.unusedVariables false
set_option linter.unusedSimpArgs false
variable {p : G → List Tk → O} {ts r : List Tk} {v : V}
theorem ca_bind {x:Nd} (h:IsCa x):bindN x=4:=by cases h<;>exact b4 (by decide) (by decide) (by decide)
theorem f_block (H:Hp p) (h:F p .block ts=some (.ok v r)) (w:Wf ts):Pm .block ts v r:=by
 simp only [F] at h
 obtain ⟨e,h1⟩:=must_ok h
 obtain ⟨c1,c2⟩:=hd_cost e (by decide)
 obtain ⟨w1,j⟩:=H _ _ _ _ h1 (c2 w)
 cases v with
 | nd x=>
  obtain ⟨j1,j2⟩:=j (fun y hy=>by simp at hy)
  have l1:sLB.length=1:=rfl
  have:Z ([]:List Nd)=0:=rfl
  exact ⟨w1,j1,by omega⟩
 | row l d=>exact j.elim
theorem f_blockL (H:Hp p) {acc:List Nd} (h:F p (.blockL acc) ts=some (.ok v r)) (w:Wf ts):Pm (.blockL acc) ts v r:=by
 simp only [F] at h
 split at h
 ·rename_i e
  obtain ⟨c1,c2⟩:=hd_cost e (by decide)
  obtain ⟨rfl,rfl⟩:=okN_ok h
  have l1:sRB.length=1:=rfl
  exact ⟨c2 w,fun ha=>⟨⟨acc,rfl,ha⟩,by rw [rs_block];omega⟩⟩
 ·obtain ⟨x,q,h1,h2⟩:=andN_ok h
  obtain ⟨w1,i1,i2⟩:=H _ _ _ _ h1 w
  obtain ⟨w2,j⟩:=H _ _ _ _ h2 w1
  cases v with
  | nd z=>
   refine ⟨w2,fun ha=>?_⟩
   obtain ⟨j1,j2⟩:=j (fun y hy=>by
    rcases List.mem_append.1 hy with hy|hy
    ·exact ha y hy
    ·simp at hy;subst hy;exact i1)
   rw [Z_app] at j2
   exact ⟨j1,by omega⟩
  | row l d=>exact j.elim
theorem f_stat (H:Hp p) (h:F p .stat ts=some (.ok v r)) (w:Wf ts):Pm .stat ts v r:=by
 simp only [F] at h
 split at h
 ·rename_i e
  obtain ⟨c1,c2⟩:=hd_cost e (by decide)
  have l1:sIF.length=2:=rfl
  obtain ⟨c,s1,h1,h2⟩:=andN_ok h
  obtain ⟨w1,i1,i2⟩:=H _ _ _ _ h1 (c2 w)
  obtain ⟨b,s2,h3,h4⟩:=andN_ok h2
  obtain ⟨w2,⟨lb,rfl,j1⟩,j2⟩:=H _ _ _ _ h3 w1
  split at h4
  ·rename_i e2
   obtain ⟨c3,c4⟩:=hd_cost e2 (by decide)
   have l2:sELSE.length=4:=rfl
   obtain ⟨o,s3,h5,h6⟩:=andN_ok h4
   obtain ⟨w3,⟨lo,rfl,k1⟩,k2⟩:=H _ _ _ _ h5 (c4 w2)
   obtain ⟨rfl,rfl⟩:=okN_ok h6
   exact ⟨w3,IsSt.if2 c lb lo i1 j1 k1,by rw [rs_if2];omega⟩
  ·obtain ⟨rfl,rfl⟩:=okN_ok h4
   exact ⟨w2,IsSt.if1 c lb i1 j1,by rw [rs_if1];omega⟩
 split at h
 ·rename_i _ e
  obtain ⟨c1,c2⟩:=hd_cost e (by decide)
  have l1:sWHILE.length=5:=rfl
  obtain ⟨c,s1,h1,h2⟩:=andN_ok h
  obtain ⟨w1,i1,i2⟩:=H _ _ _ _ h1 (c2 w)
  obtain ⟨b,s2,h3,h4⟩:=andN_ok h2
  obtain ⟨w2,⟨lb,rfl,j1⟩,j2⟩:=H _ _ _ _ h3 w1
  obtain ⟨rfl,rfl⟩:=okN_ok h4
  exact ⟨w2,IsSt.while1 c lb i1 j1,by rw [rs_while];omega⟩
 split at h
 ·rename_i _ _ e
  obtain ⟨c1,c2⟩:=hd_cost e (by decide)
  have l1:sRET.length=6:=rfl
  obtain ⟨x,s1,h1,h2⟩:=andN_ok h
  obtain ⟨w1,i1,i2⟩:=H _ _ _ _ h1 (c2 w)
  obtain ⟨e2,h3⟩:=must_ok h2
  obtain ⟨c3,c4⟩:=hd_cost e2 (by decide)
  have l2:sSEMI.length=1:=rfl
  obtain ⟨rfl,rfl⟩:=okN_ok h3
  exact ⟨c4 w1,IsSt.ret x i1,by rw [rs_ret];omega⟩
 split at h
 ·rename_i _ _ _ e
  obtain ⟨c1,c2⟩:=hd_cost e (by decide)
  have l1:sPUT.length=3:=rfl
  obtain ⟨x,s1,h1,h2⟩:=andN_ok h
  obtain ⟨w1,i1,i2⟩:=H _ _ _ _ h1 (c2 w)
  obtain ⟨e2,h3⟩:=must_ok h2
  obtain ⟨c3,c4⟩:=hd_cost e2 (by decide)
  have l2:sSEMI.length=1:=rfl
  obtain ⟨rfl,rfl⟩:=okN_ok h3
  exact ⟨c4 w1,IsSt.put x i1,by rw [rs_put];omega⟩
 split at h
 ·obtain ⟨t,s1,h1,h2⟩:=andN_ok h
  obtain ⟨w1,i1,i2⟩:=H _ _ _ _ h1 w
  obtain ⟨n1,h3⟩:=name_ok h2
  obtain ⟨c1,c2⟩:=name_cost n1
  obtain ⟨e2,h4⟩:=must_ok h3
  obtain ⟨c3,c4⟩:=hd_cost e2 (by decide)
  have l2:sEQ.length=1:=rfl
  obtain ⟨x,s2,h5,h6⟩:=andN_ok h4
  obtain ⟨w2,j1,j2⟩:=H _ _ _ _ h5 (c4 (c2 w1))
  obtain ⟨e3,h7⟩:=must_ok h6
  obtain ⟨c5,c6⟩:=hd_cost e3 (by decide)
  have l3:sSEMI.length=1:=rfl
  obtain ⟨rfl,rfl⟩:=okN_ok h7
  exact ⟨c6 w2,IsSt.var _ t x n1 i1 j1,by rw [rs_var];omega⟩
 ·obtain ⟨n1,h1⟩:=name_ok h
  obtain ⟨c1,c2⟩:=name_cost n1
  obtain ⟨x,s1,h2,h3⟩:=andN_ok h1
  obtain ⟨w1,i⟩:=H _ _ _ _ h2 (c2 w)
  obtain ⟨i1,i2⟩:=i (IsCa.name _ n1) (fun _=>IsPl.name _ n1)
  obtain ⟨e2,h4⟩:=must_ok h3
  obtain ⟨c3,c4⟩:=hd_cost e2 (by decide)
  have l2:sSEMI.length=1:=rfl
  obtain ⟨rfl,rfl⟩:=okN_ok h4
  rw [rs_name] at i2
  exact ⟨c4 w1,i1,by omega⟩
theorem f_simpleL (H:Hp p) {acc:Nd} {calls:Bool} (h:F p (.simpleL acc calls) ts=some (.ok v r)) (w:Wf ts):Pm (.simpleL acc calls) ts v r:=by
 simp only [F] at h
 split at h
 ·rename_i e
  obtain ⟨c1,c2⟩:=hd_cost e (by decide)
  have l1:sDOT.length=1:=rfl
  obtain ⟨n1,h1⟩:=name_ok h
  obtain ⟨c3,c4⟩:=name_cost n1
  obtain ⟨w1,j⟩:=H _ _ _ _ h1 (c4 (c2 w))
  cases v with
  | nd z=>
   refine ⟨w1,fun ha hp=>?_⟩
   obtain ⟨j1,j2⟩:=j (IsCa.dot _ _ n1 ha) (fun hc=>IsPl.dot _ _ n1 (hp hc))
   rw [rs_dot,rsAt_eq (by rw [ca_bind ha];omega)] at j2
   exact ⟨j1,by omega⟩
  | row l d=>exact j.elim
 split at h
 ·obtain ⟨l,d,s1,h1,h2⟩:=andR_ok h
  obtain ⟨w1,i1,i2,i3⟩:=H _ _ _ _ h1 w
  obtain ⟨w2,j⟩:=H _ _ _ _ h2 w1
  cases v with
  | nd z=>
   refine ⟨w2,fun ha hp=>?_⟩
   obtain ⟨j1,j2⟩:=j (IsCa.call _ _ ha (fun y hy=>by have:=i1 y hy;simpa [Item] using this)) (fun hc=>by cases hc)
   rw [rs_call,rsAt_eq (by rw [ca_bind ha];omega)] at j2
   rw [i2 (by omega)] at i3
   exact ⟨j1,by omega⟩
  | row l d=>exact j.elim
 split at h
 ·rename_i _ _ hc
  obtain ⟨e,h1⟩:=must_ok h
  obtain ⟨c1,c2⟩:=hd_cost e (by decide)
  have l1:sEQ.length=1:=rfl
  obtain ⟨x,s1,h2,h3⟩:=andN_ok h1
  obtain ⟨w1,i1,i2⟩:=H _ _ _ _ h2 (c2 w)
  obtain ⟨rfl,rfl⟩:=okN_ok h3
  exact ⟨w1,fun ha hp=>⟨IsSt.set _ _ (hp hc) i1,by rw [rs_set];omega⟩⟩
 ·rcases acc with ⟨k,tx,u,kids⟩
  simp only at h
  split at h
  ·rename_i e
   subst e
   obtain ⟨rfl,rfl⟩:=okN_ok h
   refine ⟨w,fun ha hp=>⟨?_,by rw [rs_do];omega⟩⟩
   cases ha with
   | call x l hx hl=>exact IsSt.do1 x l hx hl
  ·cases h
theorem f_fieldsL (H:Hp p) {s:List UInt8} {acc:List Nd} (h:F p (.fieldsL s acc) ts=some (.ok v r)) (w:Wf ts):Pm (.fieldsL s acc) ts v r:=by
 simp only [F] at h
 obtain ⟨t,s1,h1,h2⟩:=andN_ok h
 obtain ⟨w1,i1,i2⟩:=H _ _ _ _ h1 w
 obtain ⟨n1,h3⟩:=name_ok h2
 obtain ⟨c1,c2⟩:=name_cost n1
 obtain ⟨e2,h4⟩:=must_ok h3
 obtain ⟨c3,c4⟩:=hd_cost e2 (by decide)
 have l2:sSEMI.length=1:=rfl
 have ext:∀ (ha:∀ y,y∈acc→IsFi y),∀ y,y∈acc++[.mk 3 (hd s1) 0 [t]]→IsFi y:=fun ha y hy=>by
  rcases List.mem_append.1 hy with hy|hy
  ·exact ha y hy
  ·simp at hy;subst hy;exact IsFi.field _ _ n1 i1
 split at h4
 ·rename_i e3
  obtain ⟨c5,c6⟩:=hd_cost e3 (by decide)
  have l3:sRB.length=1:=rfl
  obtain ⟨rfl,rfl⟩:=okN_ok h4
  refine ⟨c6 (c4 (c2 w1)),fun hs ha=>⟨IsDe.struct1 s _ hs (by simp) (ext ha),?_⟩⟩
  rw [rs_struct,Z_app,rs_field]
  omega
 ·obtain ⟨w2,j⟩:=H _ _ _ _ h4 (c4 (c2 w1))
  cases v with
  | nd z=>
   refine ⟨w2,fun hs ha=>?_⟩
   obtain ⟨j1,j2⟩:=j hs (ext ha)
   rw [Z_app,rs_field] at j2
   exact ⟨j1,by omega⟩
  | row l d=>exact j.elim
theorem f_decl (H:Hp p) (h:F p .decl ts=some (.ok v r)) (w:Wf ts):Pm .decl ts v r:=by
 simp only [F] at h
 split at h
 ·rename_i e
  obtain ⟨c1,c2⟩:=hd_cost e (by decide)
  have l1:sSTRUCT.length=6:=rfl
  obtain ⟨n1,h1⟩:=name_ok h
  obtain ⟨c3,c4⟩:=name_cost n1
  obtain ⟨e2,h2⟩:=must_ok h1
  obtain ⟨c5,c6⟩:=hd_cost e2 (by decide)
  have l2:sLB.length=1:=rfl
  obtain ⟨w1,j⟩:=H _ _ _ _ h2 (c6 (c4 (c2 w)))
  cases v with
  | nd z=>
   obtain ⟨j1,j2⟩:=j n1 (fun y hy=>by simp at hy)
   have:Z ([]:List Nd)=0:=rfl
   exact ⟨w1,j1,by omega⟩
  | row l d=>exact j.elim
 split at h
 ·rename_i _ e
  obtain ⟨c1,c2⟩:=hd_cost e (by decide)
  have l1:sEXTERN.length=6:=rfl
  obtain ⟨t,s1,h1,h2⟩:=andN_ok h
  obtain ⟨w1,i1,i2⟩:=H _ _ _ _ h1 (c2 w)
  obtain ⟨n1,h3⟩:=name_ok h2
  obtain ⟨c3,c4⟩:=name_cost n1
  have l2:sSEMI.length=1:=rfl
  split at h3
  ·obtain ⟨l,d,s2,h4,h5⟩:=andR_ok h3
   obtain ⟨w2,j1,j2,j3⟩:=H _ _ _ _ h4 (c4 w1)
   obtain ⟨e2,h6⟩:=must_ok h5
   obtain ⟨c5,c6⟩:=hd_cost e2 (by decide)
   obtain ⟨rfl,rfl⟩:=okN_ok h6
   exact ⟨c6 w2,IsDe.extern1 _ l d t n1 (fun y hy=>by have:=j1 y hy;simpa [Item] using this) i1,by rw [rs_extern];omega⟩
  ·obtain ⟨e2,h6⟩:=must_ok h3
   obtain ⟨c5,c6⟩:=hd_cost e2 (by decide)
   obtain ⟨rfl,rfl⟩:=okN_ok h6
   exact ⟨c6 (c4 w1),IsDe.outside _ t n1 i1,by rw [rs_outside];omega⟩
 ·obtain ⟨u,hu⟩:∃ u,(if hd ts=sSTATIC then ts.tail else ts)=u:=⟨_,rfl⟩
  obtain ⟨st,hst⟩:∃ st,decide (hd ts=sSTATIC)=st:=⟨_,rfl⟩
  rw [hu,hst] at h
  have hc:cost u+(if st=true then 6 else 0)≤cost ts∧Wf u:=by
   by_cases e:hd ts=sSTATIC
   ·obtain ⟨c1,c2⟩:=hd_cost e (by decide)
    have l1:sSTATIC.length=6:=rfl
    rw [if_pos e] at hu
    rw [decide_eq_true e] at hst
    subst hu hst
    exact ⟨by rw [if_pos rfl];omega,c2 w⟩
   ·rw [if_neg e] at hu
    rw [decide_eq_false e] at hst
    subst hu hst
    exact ⟨by simp,w⟩
  obtain ⟨hc1,hc2⟩:=hc
  obtain ⟨t,s1,h1,h2⟩:=andN_ok h
  obtain ⟨w1,i1,i2⟩:=H _ _ _ _ h1 hc2
  obtain ⟨n1,h3⟩:=name_ok h2
  obtain ⟨c3,c4⟩:=name_cost n1
  split at h3
  ·obtain ⟨l,d,s2,h4,h5⟩:=andR_ok h3
   obtain ⟨w2,j1,j2,j3⟩:=H _ _ _ _ h4 (c4 w1)
   obtain ⟨b,s3,h6,h7⟩:=andN_ok h5
   obtain ⟨w3,⟨lb,rfl,k1⟩,k2⟩:=H _ _ _ _ h6 w2
   obtain ⟨rfl,rfl⟩:=okN_ok h7
   exact ⟨w3,IsDe.fun1 _ st d l t lb n1 (fun y hy=>by have:=j1 y hy;simpa [Item] using this) i1 k1,by rw [rs_fun];omega⟩
  ·obtain ⟨e2,h4⟩:=must_ok h3
   obtain ⟨c5,c6⟩:=hd_cost e2 (by decide)
   have l2:sEQ.length=1:=rfl
   obtain ⟨k,s2,h5,h6⟩:=andN_ok h4
   have hw2:Wf s1.tail.tail:=c6 (c4 w1)
   have l4:sSEMI.length=1:=rfl
   by_cases em:hd s1.tail.tail=sMINUS
   ·obtain ⟨c7,c8⟩:=hd_cost em (by decide)
    have l3:sMINUS.length=1:=rfl
    rw [if_pos em] at h5
    obtain ⟨w3,q⟩:=f_number h5 (c8 hw2)
    rcases q with ⟨uu,e3,u1,u2,u3⟩|⟨uu,e3,u1,u2,u3⟩
    ·cases e3
     simp only [if_pos em] at h6
     obtain ⟨e4,h7⟩:=must_ok h6
     obtain ⟨c9,c10⟩:=hd_cost e4 (by decide)
     obtain ⟨rfl,rfl⟩:=okN_ok h7
     refine ⟨c10 w3,IsDe.global _ st t (-uu) n1 i1 (by omega) (by omega),?_⟩
     rw [rs_global]
     by_cases z:uu=0
     ·subst z
      rw [rs_num _ (by omega)]
      have:(-0:Int).toNat=(0:Int).toNat:=rfl
      rw [this]
      omega
     ·rw [rs_numN _ (by omega),show -(-uu)=uu by omega]
      omega
    ·cases e3
     simp only [if_pos em] at h6
     obtain ⟨e4,h7⟩:=must_ok h6
     obtain ⟨c9,c10⟩:=hd_cost e4 (by decide)
     obtain ⟨rfl,rfl⟩:=okN_ok h7
     refine ⟨c10 w3,IsDe.globalL _ st t (-uu) n1 i1 (by omega) (by omega),?_⟩
     rw [rs_global]
     by_cases z:uu=0
     ·subst z
      rw [rs_lnum _ (by omega)]
      have:(-0:Int).toNat=(0:Int).toNat:=rfl
      rw [this]
      omega
     ·rw [rs_lnumN _ (by omega),show -(-uu)=uu by omega]
      omega
   ·rw [if_neg em] at h5
    obtain ⟨w3,q⟩:=f_number h5 hw2
    rcases q with ⟨uu,e3,u1,u2,u3⟩|⟨uu,e3,u1,u2,u3⟩
    ·cases e3
     simp only [if_neg em] at h6
     obtain ⟨e4,h7⟩:=must_ok h6
     obtain ⟨c9,c10⟩:=hd_cost e4 (by decide)
     obtain ⟨rfl,rfl⟩:=okN_ok h7
     refine ⟨c10 w3,IsDe.global _ st t uu n1 i1 (by omega) (by omega),?_⟩
     rw [rs_global,rs_num _ u1]
     omega
    ·cases e3
     simp only [if_neg em] at h6
     obtain ⟨e4,h7⟩:=must_ok h6
     obtain ⟨c9,c10⟩:=hd_cost e4 (by decide)
     obtain ⟨rfl,rfl⟩:=okN_ok h7
     refine ⟨c10 w3,IsDe.globalL _ st t uu n1 i1 (by omega) (by omega),?_⟩
     rw [rs_global,rs_lnum _ u1]
     omega
theorem f_unitL (H:Hp p) {acc:List Nd} (h:F p (.unitL acc) ts=some (.ok v r)) (w:Wf ts):Pm (.unitL acc) ts v r:=by
 simp only [F] at h
 cases ts with
 | nil=>
  obtain ⟨rfl,rfl⟩:=okN_ok h
  exact ⟨w,fun ha=>⟨IsUn.unit acc ha,by rw [rs_unit];simp [cost]⟩⟩
 | cons t q=>
  obtain ⟨x,s1,h1,h2⟩:=andN_ok h
  obtain ⟨w1,i1,i2⟩:=H _ _ _ _ h1 w
  obtain ⟨w2,j⟩:=H _ _ _ _ h2 w1
  cases v with
  | nd z=>
   refine ⟨w2,fun ha=>?_⟩
   obtain ⟨j1,j2⟩:=j (fun y hy=>by
    rcases List.mem_append.1 hy with hy|hy
    ·exact ha y hy
    ·simp at hy;subst hy;exact i1)
   rw [Z_app] at j2
   exact ⟨j1,by omega⟩
  | row l d=>exact j.elim
theorem F_spec (H:Hp p):Hp (F p):=by
 intro g ts v r h w
 cases g with
 | typ=>exact f_typ H h w
 | rows k=>exact f_rows H h w
 | rowsL k acc=>exact f_rowsL H h w
 | item k=>exact f_item H h w
 | expr=>exact f_expr H h w
 | bound k=>exact f_bound H h w
 | boundL k acc=>exact f_boundL H h w
 | unary=>exact f_unary H h w
 | postL acc=>exact f_postL H h w
 | first=>exact f_first H h w
 | round=>exact f_round H h w
 | makeL s acc=>exact f_makeL H h w
 | block=>exact f_block H h w
 | blockL acc=>exact f_blockL H h w
 | stat=>exact f_stat H h w
 | simpleL acc c=>exact f_simpleL H h w
 | decl=>exact f_decl H h w
 | fieldsL s acc=>exact f_fieldsL H h w
 | unitL acc=>exact f_unitL H h w
theorem P_spec:∀ n,Hp (P n)
 | 0=>fun g ts v r h _=>by cases h
 | n+1=>F_spec (P_spec n)
theorem R_unit {ts:List Tk} {x:Nd} {r:List Tk} (h:R (.unitL []) ts (.ok (.nd x) r)) (w:Wf ts):IsUn x∧cost (shT x)≤cost ts:=by
 obtain ⟨n,e⟩:=h
 obtain ⟨_,i⟩:=P_spec n _ _ _ _ e w
 obtain ⟨i1,i2⟩:=i (fun y hy=>by simp at hy)
 refine ⟨i1,?_⟩
 have:Z ([]:List Nd)=0:=rfl
 unfold rs at i2
 omega
end Go.Proofs.YthcfianhdkolhaaGreatDoor.S
namespace Go.Proofs.YthcfianhdkolhaaGreatDoor.S
set_option linter.unusedVariables false
set_option linter.unusedSimpArgs false
def AllD (s:List UInt8):Prop:=∀ c,c∈s→48≤c.toNat∧c.toNat≤57
def valN:List UInt8→Nat→Nat
 | [],a=>a
 | c::r,a=>valN r (10*a+(c.toNat - 48))
theorem digits_val:∀ (s:List UInt8) (a:Nat),AllD s→digits s a=valN s a
 | [],a,_=>rfl
 | c::r,a,h=>by
  have hc:=h c (by simp)
  show digits r (10*(a:Int)+(c.toNat:Int) - 48)=valN r (10*a+(c.toNat - 48))
  rw [← digits_val r _ (fun x hx=>h x (by simp [hx]))]
  congr 1
  omega
theorem val_app (a b:List UInt8) (v:Nat):valN (a++b) v=valN b (valN a v):=by
 induction a generalizing v with
 | nil=>rfl
 | cons c r ih=>exact ih _
theorem val_bounds:∀ (s:List UInt8) (a:Nat),AllD s→a*10 ^ s.length≤valN s a∧valN s a+1≤(a+1)*10 ^ s.length
 | [],a,_=>by simp [valN]
 | c::r,a,h=>by
  have hc:=h c (by simp)
  obtain ⟨h1,h2⟩:=val_bounds r (10*a+(c.toNat - 48)) (fun x hx=>h x (by simp [hx]))
  simp only [List.length_cons,valN,Nat.pow_succ]
  have e1:a*(10 ^ r.length*10)=10*a*10 ^ r.length:=by rw [Nat.mul_comm (10 ^ r.length) 10,← Nat.mul_assoc,Nat.mul_comm a 10]
  have e2:(a+1)*(10 ^ r.length*10)=(10*a+10)*10 ^ r.length:=by rw [Nat.mul_comm (10 ^ r.length) 10,← Nat.mul_assoc,Nat.mul_comm (a+1) 10,Nat.mul_add]
  have l1:10*a*10 ^ r.length≤(10*a+(c.toNat - 48))*10 ^ r.length:=Nat.mul_le_mul_right _ (by omega)
  have l2:(10*a+(c.toNat - 48)+1)*10 ^ r.length≤(10*a+10)*10 ^ r.length:=Nat.mul_le_mul_right _ (by omega)
  rw [e1,e2]
  exact ⟨Nat.le_trans l1 h1,Nat.le_trans h2 l2⟩
theorem val_lt {x y:List UInt8} {a b:Nat} (hx:AllD x) (hy:AllD y) (hl:x.length=y.length) (h:a<b):valN x a<valN y b:=by
 have h1:=(val_bounds x a hx).2
 have h2:=(val_bounds y b hy).1
 have h3:(a+1)*10 ^ x.length≤b*10 ^ y.length:=by rw [hl];exact Nat.mul_le_mul_right _ h
 omega
theorem less_val:∀ (x y:List UInt8) (a:Nat),AllD x→AllD y→x.length=y.length→(Op.bytesLess x y=true→valN x a<valN y a)∧(Op.bytesLess x y=false→valN y a≤valN x a)
 | [],[],a,_,_,_=>by simp [Op.bytesLess,valN]
 | [],d::y,_,_,_,h=>by simp at h
 | c::x,[],_,_,_,h=>by simp at h
 | c::x,d::y,a,hx,hy,h=>by
  have hl:x.length=y.length:=by simpa using h
  have hx':AllD x:=fun z hz=>hx z (by simp [hz])
  have hy':AllD y:=fun z hz=>hy z (by simp [hz])
  have hc:=hx c (by simp)
  have hd:=hy d (by simp)
  simp only [Op.bytesLess,valN]
  by_cases e:c<d
  ·have e':c.toNat<d.toNat:=UInt8.lt_iff_toNat_lt.1 e
   simp only [e,decide_true,Bool.true_or,true_implies,Bool.true_eq_false,false_implies,and_true]
   exact val_lt hx' hy' hl (by omega)
  ·by_cases e2:c=d
   ·subst e2
    have ih:=less_val x y (10*a+(c.toNat - 48)) hx' hy' hl
    simp only [e,decide_false,Bool.false_or,beq_self_eq_true,Bool.true_and]
    exact ih
   ·have e':d.toNat<c.toNat:=by
     have h1:¬ c.toNat<d.toNat:=fun q=>e (UInt8.lt_iff_toNat_lt.2 q)
     have h2:c.toNat≠d.toNat:=fun q=>e2 (UInt8.toNat_inj.1 q)
     omega
    have e3:(c == d)=false:=by simpa using e2
    simp only [e,decide_false,Bool.false_or,e3,Bool.false_and,Bool.false_eq_true,false_implies,true_implies,true_and]
    exact Nat.le_of_lt (val_lt hy' hx' hl.symm (by omega))
theorem dig_nat (n:Nat) (h:n<10):(UInt8.ofNat (48+n)).toNat=48+n:=by rw [UInt8.toNat_ofNat',Nat.mod_eq_of_lt (by omega)]
theorem dec_all (n:Nat):AllD (decN n):=by
 induction n using Nat.strongRecOn with
 | ind n ih=>
  unfold decN
  split
  ·rename_i h
   intro c hc
   rw [List.mem_singleton] at hc
   rw [hc,dig_nat n h]
   omega
  ·intro c hc
   rcases List.mem_append.1 hc with hc|hc
   ·exact ih (n / 10) (by omega) c hc
   ·rw [List.mem_singleton] at hc
    rw [hc,dig_nat _ (by omega)]
    omega
theorem dec_val (n:Nat):valN (decN n) 0=n:=by
 have h1:=digits_val (decN n) 0 (dec_all n)
 have h2:=digits_dec n
 have h3:digits (decN n) ((0:Nat):Int)=digits (decN n) 0:=rfl
 rw [h3,h2] at h1
 omega
theorem dec_ne (n:Nat):decN n≠[]:=by unfold decN;split<;>simp
def NoZ (s:List UInt8):Prop:=1<s.length→∀ c,s.head?=some c→c.toNat≠48
theorem head_app {a b:List UInt8} (h:a≠[]):(a++b).head?=a.head?:=by
 cases a with
 | nil=>exact absurd rfl h
 | cons c r=>rfl
theorem dec_noz (n:Nat):NoZ (decN n)∧(1≤n→∀ c,(decN n).head?=some c→c.toNat≠48):=by
 induction n using Nat.strongRecOn with
 | ind n ih=>
  have key:1≤n→∀ c,(decN n).head?=some c→c.toNat≠48:=by
   intro hn c hc
   unfold decN at hc
   split at hc
   ·rename_i h
    rw [List.head?_cons] at hc
    injection hc with hc
    rw [← hc,dig_nat n h]
    omega
   ·rename_i h
    rw [head_app (dec_ne _)] at hc
    exact (ih (n / 10) (by omega)).2 (by omega) c hc
  refine ⟨fun hl=>key ?_,key⟩
  unfold decN at hl
  split at hl
  ·simp at hl
  ·omega
theorem val_one {s:List UInt8} (h:AllD s) (hne:s≠[]) (hz:∀ c,s.head?=some c→c.toNat≠48):10 ^ (s.length - 1)≤valN s 0:=by
 cases s with
 | nil=>exact absurd rfl hne
 | cons c r=>
  have hc:=h c (by simp)
  have h0:=hz c rfl
  have:=(val_bounds r (10*0+(c.toNat - 48)) (fun x hx=>h x (by simp [hx]))).1
  have h1:1*10 ^ r.length≤(10*0+(c.toNat - 48))*10 ^ r.length:=Nat.mul_le_mul_right _ (by omega)
  simp only [List.length_cons,Nat.add_sub_cancel,valN]
  omega
theorem dec_of_val:∀ (n:Nat) (s:List UInt8),s.length=n→AllD s→s≠[]→NoZ s→decN (valN s 0)=s:=by
 intro n
 induction n using Nat.strongRecOn with
 | ind n ih=>
  intro s hn hs hne hz
  obtain ⟨r,c,rfl⟩:∃ r c,s=r++[c]:=⟨s.dropLast,s.getLast hne,(List.dropLast_concat_getLast hne).symm⟩
  have hc:=hs c (by simp)
  have hr:AllD r:=fun x hx=>hs x (by simp [hx])
  have e:valN (r++[c]) 0=10*valN r 0+(c.toNat - 48):=by rw [val_app];rfl
  have eb:∀ k,k=c.toNat - 48→UInt8.ofNat (48+k)=c:=fun k hk=>by
   apply UInt8.toNat_inj.1
   rw [UInt8.toNat_ofNat',Nat.mod_eq_of_lt (by omega)]
   omega
  by_cases hr0:r=[]
  ·subst hr0
   rw [e]
   unfold decN
   rw [dif_pos (by simp [valN];omega)]
   rw [eb _ (by simp [valN])]
   rfl
  ·have hz2:∀ d,r.head?=some d→d.toNat≠48:=fun d hd=>by
    have hl:1<(r++[c]).length:=by
     have:0<r.length:=List.length_pos_iff.2 hr0
     simp
     omega
    exact hz hl d (by rw [head_app hr0];exact hd)
   have h1:=val_one hr hr0 hz2
   have h2:1≤10 ^ (r.length - 1):=Nat.pow_pos (by omega)
   rw [e]
   rw [decN,dif_neg (by omega)]
   have e1:(10*valN r 0+(c.toNat - 48)) / 10=valN r 0:=by omega
   have e2:(10*valN r 0+(c.toNat - 48)) % 10=c.toNat - 48:=by omega
   rw [e1,e2,ih r.length (by rw [← hn];simp) r rfl hr hr0 (fun _=>hz2),eb _ rfl]
theorem dec_len {n k:Nat} (h:n<10 ^ k) (hk:1≤k):(decN n).length≤k:=by
 by_cases hn:n=0
 ·subst hn
  unfold decN
  simp
  omega
 ·have h1:=val_one (dec_all n) (dec_ne n) ((dec_noz n).2 (by omega))
  rw [dec_val] at h1
  by_cases hl:(decN n).length≤k
  ·exact hl
  ·have:10 ^ k≤10 ^ ((decN n).length - 1):=Nat.pow_le_pow_right (by omega) (by omega)
   omega
end Go.Proofs.YthcfianhdkolhaaGreatDoor.S
