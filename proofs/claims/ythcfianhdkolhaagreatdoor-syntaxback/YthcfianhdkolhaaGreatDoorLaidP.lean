/- LaidP -/
import Derived.Test.YthcfianhdkolhaaGreatDoorRows
import Derived.Test.YthcfianhdkolhaaGreatDoorPrO
import Derived.ProofKit
import Derived.OpenShut
import Derived.SizedLaws
import Derived.Carry
import Derived.Deep.Strs
import Derived.Deep.Slices
import Derived.Deep.MidRow
import Derived.LaidMore
import Derived.Lib.LaidTab
import Derived.Stop.Joined
import Derived.Stop.LaidErr
import Derived.MakeChecks
namespace Go.Proofs.YthcfianhdkolhaaGreatDoor.T
open Go.ChangeShapes Go.WideShapes Go.ChangeAt Go.RowKit Go.Deep Go.Proofs.YthcfianhdkolhaaGreatDoor.S
set_option maxRecDepth 100000
set_option maxHeartbeats 2000000
set_option linter.unusedVariables false
set_option linter.unusedSimpArgs false
instance:Inhabited Nd:=⟨.mk 0 [] 0 []⟩
theorem spot_none {w:World} {a:Addr} {u:Value} (h:w.cell? a=some u):a.spot=none:=by
 obtain ⟨b,o,s⟩:=a
 cases s with
 | none=>rfl
 | some s=>
  exfalso
  unfold World.cell? at h
  split at h<;>simp at h
theorem four {α:Type} {l:List α} (h:l.length=4):∃ a b c d,l=[a,b,c,d]:=by
 match l,h with
 | [a,b,c,d],_=>exact ⟨a,b,c,d,rfl⟩
theorem three {α:Type} {l:List α} (h:l.length=3):∃ a b c,l=[a,b,c]:=by
 match l,h with
 | [a,b,c],_=>exact ⟨a,b,c,rfl⟩
theorem cells24:Tryz.prog.cellsOf 24=4:=by kernel_rfl
theorem open_nd {H:Type} {enc:TypeId × Value→H} {W:World} {sp:Nat→Bool}:∀ (fuel:Nat) (cs:List Value) (y:DataW H × List MemPlace),DataW.trod enc Tryz.prog W 0 sp true fuel 24 cs=some y→∃ n,NdO W n (.agg cs.toArray):=by
 have c22:Tryz.prog.cellsOf 22=1:=by kernel_rfl
 have c3:Tryz.prog.cellsOf 3=1:=by kernel_rfl
 have c2:Tryz.prog.cellsOf 2=1:=by kernel_rfl
 have c9:Tryz.prog.cellsOf 9=1:=by kernel_rfl
 have hm:maxLen=9223372036854775807:=rfl
 intro fuel
 induction fuel using Nat.strongRecOn with
 | ind fuel ih=>
  intro cs y h
  obtain ⟨xs,n,hn,hx,hl,hlen,hp⟩:=DataW.trod_struct Tryz.underlying24 h
  rw [cells24] at hl
  obtain ⟨k0,k1,k2,k3,rfl⟩:=four hl
  obtain ⟨y0,y1,y2,y3,rfl⟩:=four (show xs.length=4 from hlen)
  have e0:=hp 0 _ rfl
  have e1:=hp 1 _ rfl
  have e2:=hp 2 _ rfl
  have e3:=hp 3 _ rfl
  simp [c22,c2,c3,c9] at e0 e1 e2 e3
  obtain ⟨kind,q0,-,w0⟩:=DataW.trod_int Tryz.underlying3 e0
  obtain ⟨name,q1,-,w1⟩:=DataW.trod_string Tryz.underlying9 e1
  obtain ⟨num,q2,-,w2⟩:=DataW.trod_int Tryz.underlying2 e2
  simp at q0 q1 q2
  subst q0 q1 q2
  obtain ⟨nb0,nb1⟩:=bounds_i64 w2
  have hname:name.data.toList.length≤9223372036854775807:=by
   have e1:name.data.toList.length=name.size:=Array.length_toList
   rw [e1]
   omega
  rcases DataW.trod_slice Tryz.underlying22 e3 with ⟨h1,_⟩|⟨a,len,cap,elems,rest,n',hn',h1,_,_,hlc,hcm,hel,hE,_,_⟩
  ·simp at h1
   subst h1
   exact ⟨.mk kind name.data.toList num [],NdO.mk kind name.data.toList num [] none 0 (fun _ _=>undef) hname nb0 nb1 (by simp) (by omega) (fun h=>absurd rfl h) (fun j hj=>by simp at hj)⟩
  ·simp at h1
   subst h1
   rw [cells24] at hE
   have each:∀ i,i<len→∃ T:Nd,∃ cs',W.cells? 0 (a.add (i*4)) 4=some cs'∧NdO W T (.agg cs'.toArray):=fun i hi=>by
    have h2:=hE i hi
    rw [List.getElem?_eq_getElem (by omega)] at h2
    obtain ⟨cs',h3,h4⟩:=Option.bind_eq_some_iff.1 h2
    obtain ⟨T,hT⟩:=ih n' (by omega) cs' _ h4
    exact ⟨T,cs',h3,hT⟩
   obtain ⟨parts,hparts⟩:=choose_lt each
   by_cases hpos:0<len
   ·obtain ⟨cs0,g1,_⟩:=hparts 0 hpos
    obtain ⟨_,g2,g3⟩:=World.cells?_some g1
    have ha0:a.add (0*4)=a:=by unfold Addr.add;simp
    have ha1:a.add 0=a:=by unfold Addr.add;simp
    have h0:=g3 0 (by omega)
    rw [ha0,ha1,List.getElem?_eq_getElem (by omega)] at h0
    have hs:=spot_none h0
    obtain ⟨b,o,s⟩:=a
    simp only at hs
    subst hs
    have hkl:((List.range len).map parts).length=len:=by simp
    have hv:(.slice (some ⟨b,o,none⟩) len cap:Value)=.slice (some ⟨b,o,none⟩) ((List.range len).map parts).length cap:=by rw [hkl]
    refine ⟨.mk kind name.data.toList num ((List.range len).map parts),?_⟩
    show NdO W _ (.agg #[.int .i64 kind,.string name,.int .i64 num,.slice (some ⟨b,o,none⟩) len cap])
    rw [hv]
    have hcell:∀ j i,j<len→i<4→∃ u,W.cell? ⟨b,o+j*4+i,none⟩=some u:=fun j i hj hi=>by
     obtain ⟨cs',u1,u2⟩:=hparts j hj
     obtain ⟨_,u3,u4⟩:=World.cells?_some u1
     have:=u4 i (by omega)
     simp only [Addr.add_mid] at this
     rw [List.getElem?_eq_getElem (by omega)] at this
     exact ⟨_,this⟩
    refine NdO.mk kind name.data.toList num _ (some ⟨b,o,none⟩) cap (fun j i=>(W.cell? ⟨b,o+j*4+i,none⟩).getD undef) hname nb0 nb1 (by rw [hkl];exact hlc) (by omega) (fun _=>⟨b,o,rfl,fun j i hj hi=>?_⟩) (fun j hj=>?_)
    ·rw [hkl] at hj
     obtain ⟨u,hu⟩:=hcell j i hj hi
     rw [hu];rfl
    ·have hj':j<len:=by rw [hkl] at hj;exact hj
     obtain ⟨cs',u1,u2⟩:=hparts j hj'
     obtain ⟨_,u3,u4⟩:=World.cells?_some u1
     obtain ⟨z0,z1,z2,z3,rfl⟩:∃ z0 z1 z2 z3,cs'=[z0,z1,z2,z3]:=by
      match cs',u3 with
      | [z0,z1,z2,z3],_=>exact ⟨z0,z1,z2,z3,rfl⟩
     simp only [Addr.add_mid] at u4
     have v0:=u4 0 (by omega)
     have v1:=u4 1 (by omega)
     have v2:=u4 2 (by omega)
     have v3:=u4 3 (by omega)
     simp only [List.getElem?_cons_zero,List.getElem?_cons_succ,Nat.add_zero] at v0 v1 v2 v3
     have hk:((List.range len).map parts)[j]=parts j:=by simp
     rw [hk]
     simp only [Nat.add_zero]
     rw [v0,v1,v2,v3]
     exact u2
   ·obtain rfl:len=0:=by omega
    exact ⟨.mk kind name.data.toList num [],NdO.mk kind name.data.toList num [] (some a) cap (fun _ _=>undef) hname nb0 nb1 (by simp) (by omega) (fun h=>absurd rfl h) (fun j hj=>by simp at hj)⟩
theorem open_node {H:Type} {enc:TypeId × Value→H} {W:World} {r:Reach} {b0:Nat} {v:Value} {d:DataW H} {p:List MemPlace} {sp:Nat→Bool}
  (hv:Value.okWide Tryz.prog W r b0 24 v) (h:DataW.Trod enc Tryz.prog W 0 sp true 24 v d p):∃ n,NdO W n v:=by
 obtain ⟨cs,rfl,hsz⟩:=okWide_struct Tryz.underlying24 hv
 obtain ⟨fuel,hf⟩:=h
 have h2:=open_nd fuel _ _ hf
 have e:(Value.agg cs).cells.toList.toArray=cs:=by simp [Value.cells]
 rw [e] at h2
 exact h2
theorem post_below2 {H:Type} {enc:TypeId × Value→H} {P:Program} {f:Func} {s:ChangeSpec} {apart fresh handsOn:Bool} {W W':World} {args:Array Value} {v:Value} {ds gs:List (DataW H)} {before pa pv:List MemPlace}
  (hW:DataW.Whole enc P f.params.toList s.vars apart W args.toList ds gs before)
  (hres:∀ (b:Nat) (sp:Nat→Bool) (hd:Bool),DataW.TrodAll enc P W' b sp hd f.resultTypes.toList (v.resultList f.resultTypes.size) (s.fn H (ds++gs)).results [])
  (hargs:DataW.TrodAll enc P W' 0 (fun b=>decide (b<W.heap.size)) true f.params.toList args.toList (s.fn H (ds++gs)).args pa)
  (hvars:DataW.TrodVars enc P W' (fun b=>decide (b<W.heap.size)) s.vars (s.fn H (ds++gs)).vars pv)
  (hps:before=pa++pv) (hb:Below W.heap.size W W'):
  s.post enc P f apart fresh handsOn false W args v W':=by
 refine ⟨ds,gs,before,[],pa,pv,hW,hres _ _ _,hargs,hvars,World.keptBut_mono (fun p hp=>⟨hp,?_⟩) (hb.frame (·∈before)),fun h=>by cases h⟩
 rw [hps,List.mem_append] at hp
 exact Or.inr hp
theorem row_of {H:Type} {enc:TypeId × Value→H} {P:Program} {w:World} {base:Nat} {sp:Nat→Bool} {held:Bool} {fuel:Nat} {t e:TypeId} {n c:Nat} {cs:List Value} {zs:List (DataW H)} {p:List MemPlace}
  (ht:P.underlying t=some (.array n e)) (hce:P.cellsOf e=c) (hct:P.cellsOf t=n*c)
  (h:DataW.trod enc P w base sp held fuel t cs=some (.agg zs,p)) (i:Nat) (hi:i<n) (z:DataW H) (hz:zs[i]?=some z):∃ f p',DataW.trod enc P w base sp held f e ((cs.drop (i*c)).take c)=some (z,p'):=by
 cases fuel with
 | zero=>simp [DataW.trod] at h
 | succ fuel=>
  simp only [DataW.trod,ht,hce,hct] at h
  split at h
  ·rename_i hl
   obtain ⟨xs,hm,hx⟩:=Option.map_eq_some_iff.1 h
   have hxs:xs.map (·.1)=zs:=by
    have:=congrArg Prod.fst hx
    simpa using this
   obtain ⟨b,hb,hf⟩:=Lib.mapM_at hm i i (by simp [hi])
   have h2:(xs.map (·.1))[i]?=some b.1:=by simp [hb]
   rw [hxs,hz] at h2
   obtain rfl:z=b.1:=by simpa using h2
   exact ⟨fuel,b.2,hf⟩
  ·cases h
theorem g_shapes : Tryz.prog.globalNamed "scarfjoint/syntax.shapes" = some 0 := by kernel_rfl
theorem t_shapes:(Tryz.prog.globals[0]?).map (·.type)=some 111:=by kernel_rfl
theorem g_opers : Tryz.prog.globalNamed "scarfjoint/syntax.operators" = some 4 := by kernel_rfl
theorem t_opers:(Tryz.prog.globals[4]?).map (·.type)=some 159:=by kernel_rfl
theorem t_pow:(Tryz.prog.globals[5]?).map (·.type)=some 162:=by kernel_rfl
theorem c78:Tryz.prog.cellsOf 110=4:=by kernel_rfl
theorem c79:Tryz.prog.cellsOf 111=35*4:=by kernel_rfl
theorem c102:Tryz.prog.cellsOf 158=3:=by kernel_rfl
theorem c105:Tryz.prog.cellsOf 159=10*3:=by kernel_rfl
def shapeD {H:Type} (s:Bool × Int × Int × Int):DataW H:=.agg [.lit (.bool s.1),.lit (.int .i64 s.2.1),.lit (.int .i64 s.2.2.1),.lit (.int .i64 s.2.2.2)]
def operD {H:Type} (s:List UInt8 × Int × Int):DataW H:=.agg [.lit (.string s.1),.lit (.int .i64 s.2.1),.lit (.int .i64 s.2.2)]
theorem d_shapes:(Rows.laid_scarfjoint_syntax_shapes:DataW Unit)=.agg (shapes.map shapeD):=by kernel_rfl
theorem d_opers:(Rows.laid_scarfjoint_syntax_operators:DataW Unit)=.agg (opsP.map operD):=by kernel_rfl
theorem d_pow:(Rows.laid_internal_strconv_uint64pow10:DataW Unit)=Lib.tabData .u64 Lib.pow10Tab:=by kernel_rfl
theorem shape_cells {H:Type} {enc:TypeId × Value→H} {w:World} {base:Nat} {sp:Nat→Bool} {held:Bool} {f:Nat} {cs:List Value} {s:Bool × Int × Int × Int} {p:List MemPlace} (h:DataW.trod enc Tryz.prog w base sp held f 110 cs=some (shapeD s,p)):cs=[.bool s.1,.int .i64 s.2.1,.int .i64 s.2.2.1,.int .i64 s.2.2.2]:=by
 have c4:Tryz.prog.cellsOf 4=1:=by kernel_rfl
 have c3:Tryz.prog.cellsOf 3=1:=by kernel_rfl
 have c2:Tryz.prog.cellsOf 2=1:=by kernel_rfl
 obtain ⟨xs,n,hn,hx,hl,hlen,hp⟩:=DataW.trod_struct Tryz.underlying110 h
 rw [c78] at hl
 obtain ⟨k0,k1,k2,k3,rfl⟩:=four hl
 obtain ⟨y0,y1,y2,y3,rfl⟩:=four (show xs.length=4 from hlen)
 have hx':=congrArg Prod.fst hx
 simp [shapeD] at hx'
 have e0:=hp 0 _ rfl
 have e1:=hp 1 _ rfl
 have e2:=hp 2 _ rfl
 have e3:=hp 3 _ rfl
 simp [c2,c3,c4] at e0 e1 e2 e3
 obtain ⟨b0,q0,r0⟩:=DataW.trod_bool Tryz.underlying4 e0
 obtain ⟨b1,q1,r1,_⟩:=DataW.trod_int Tryz.underlying2 e1
 obtain ⟨b2,q2,r2,_⟩:=DataW.trod_int Tryz.underlying3 e2
 obtain ⟨b3,q3,r3,_⟩:=DataW.trod_int Tryz.underlying3 e3
 subst r0 r1 r2 r3
 simp only [DataW.lit.injEq,Lit.bool.injEq,Lit.int.injEq,true_and] at hx'
 obtain ⟨rfl,rfl,rfl,rfl⟩:=hx'
 simp only [List.cons.injEq,and_true] at q0 q1 q2 q3
 subst q0 q1 q2 q3
 rfl
theorem oper_cells {H:Type} {enc:TypeId × Value→H} {w:World} {base:Nat} {sp:Nat→Bool} {held:Bool} {f:Nat} {cs:List Value} {s:List UInt8 × Int × Int} {p:List MemPlace} (h:DataW.trod enc Tryz.prog w base sp held f 158 cs=some (operD s,p)):cs=[.string (str s.1),.int .i64 s.2.1,.int .i64 s.2.2]:=by
 have c9:Tryz.prog.cellsOf 9=1:=by kernel_rfl
 have c3:Tryz.prog.cellsOf 3=1:=by kernel_rfl
 have c2:Tryz.prog.cellsOf 2=1:=by kernel_rfl
 obtain ⟨xs,n,hn,hx,hl,hlen,hp⟩:=DataW.trod_struct Tryz.underlying158 h
 rw [c102] at hl
 obtain ⟨k0,k1,k2,rfl⟩:=three hl
 obtain ⟨y0,y1,y2,rfl⟩:=three (show xs.length=3 from hlen)
 have hx':=congrArg Prod.fst hx
 simp [operD] at hx'
 have e0:=hp 0 _ rfl
 have e1:=hp 1 _ rfl
 have e2:=hp 2 _ rfl
 simp [c2,c3,c9] at e0 e1 e2
 obtain ⟨b0,q0,r0,_⟩:=DataW.trod_string Tryz.underlying9 e0
 obtain ⟨b1,q1,r1,_⟩:=DataW.trod_int Tryz.underlying2 e1
 obtain ⟨b2,q2,r2,_⟩:=DataW.trod_int Tryz.underlying3 e2
 subst r0 r1 r2
 simp only [DataW.lit.injEq,Lit.string.injEq,Lit.int.injEq,true_and] at hx'
 obtain ⟨g0,rfl,rfl⟩:=hx'
 simp only [List.cons.injEq,and_true] at q0 q1 q2
 subst q0 q1 q2
 rw [g0]
 rfl
theorem tab_of {W : World} {r : List (String × DataW Unit)} (h : laidMet Tryz.prog (("internal/strconv.uint64pow10", Rows.laid_internal_strconv_uint64pow10) :: r) W) : TabW W := by
 rw [d_pow] at h
 exact Lib.tabIs_of_head tab_global t_pow Tryz.underlying162 Tryz.underlying117 (by kernel_rfl) (by kernel_rfl) h
theorem shapes_of {W : World} {r : List (String × DataW Unit)} (h : laidMet Tryz.prog (("scarfjoint/syntax.shapes", Rows.laid_scarfjoint_syntax_shapes) :: r) W) (k : Nat) (hk : k < 35) : W.cell? ⟨0, k * 4, none⟩ = some (.bool (shp k).1) ∧ W.cell? ⟨0, k * 4 + 1, none⟩ = some (.int .i64 (shp k).2.1) ∧ W.cell? ⟨0, k * 4 + 2, none⟩ = some (.int .i64 (shp k).2.2.1) ∧ W.cell? ⟨0, k * 4 + 3, none⟩ = some (.int .i64 (shp k).2.2.2) := by
 obtain ⟨ps,⟨g',t',cs,fuel,p,q,hg',ht',hvar,hd,_,_⟩,_⟩:=h
 obtain rfl:=Option.some.inj (g_shapes.symm.trans hg')
 obtain rfl:=Option.some.inj (t_shapes.symm.trans ht')
 rw [d_shapes] at hd
 have hz:(shapes.map shapeD)[k]?=some (shapeD (H:=Unit) (shp k)):=by
  have hl:shapes.length=35:=by decide +kernel
  rw [List.getElem?_map,List.getElem?_eq_getElem (by omega)]
  simp only [Option.map_some,shp,List.getD,List.getElem?_eq_getElem (show k<shapes.length by omega),Option.getD_some]
 obtain ⟨f,p',h2⟩:=row_of Tryz.underlying111 c78 c79 hd k hk _ hz
 have h3:=shape_cells h2
 have hc:∀ i v,i<4→(List.take 4 (List.drop (k*4) cs.toList))[i]?=some v→W.cell? ⟨0,k*4+i,none⟩=some v:=fun i v hi hv=>by
  rw [World.var?_cell g_shapes hvar (k*4+i),← hv,List.getElem?_take_of_lt hi,List.getElem?_drop,Array.getElem?_toList]
 rw [h3] at hc
 exact ⟨hc 0 _ (by omega) rfl,hc 1 _ (by omega) rfl,hc 2 _ (by omega) rfl,hc 3 _ (by omega) rfl⟩
theorem opers_of {W : World} {r : List (String × DataW Unit)} (h : laidMet Tryz.prog (("scarfjoint/syntax.operators", Rows.laid_scarfjoint_syntax_operators) :: r) W) (k : Nat) (hk : k < 10) : W.cell? ⟨4, k * 3, none⟩ = some (.string (str (opr k).1)) ∧ W.cell? ⟨4, k * 3 + 1, none⟩ = some (.int .i64 (opr k).2.1) ∧ W.cell? ⟨4, k * 3 + 2, none⟩ = some (.int .i64 (opr k).2.2) := by
 obtain ⟨ps,⟨g',t',cs,fuel,p,q,hg',ht',hvar,hd,_,_⟩,_⟩:=h
 obtain rfl:=Option.some.inj (g_opers.symm.trans hg')
 obtain rfl:=Option.some.inj (t_opers.symm.trans ht')
 rw [d_opers] at hd
 have hz:(opsP.map operD)[k]?=some (operD (H:=Unit) (opr k)):=by
  have hl:opsP.length=10:=by rfl
  rw [List.getElem?_map,List.getElem?_eq_getElem (by omega)]
  simp only [Option.map_some,opr,List.getD,List.getElem?_eq_getElem (show k<opsP.length by omega),Option.getD_some]
 obtain ⟨f,p',h2⟩:=row_of Tryz.underlying159 c102 c105 hd k hk _ hz
 have h3:=oper_cells h2
 have hc:∀ i v,i<3→(List.take 3 (List.drop (k*3) cs.toList))[i]?=some v→W.cell? ⟨4,k*3+i,none⟩=some v:=fun i v hi hv=>by
  rw [World.var?_cell g_opers hvar (k*3+i),← hv,List.getElem?_take_of_lt hi,List.getElem?_drop,Array.getElem?_toList]
 rw [h3] at hc
 exact ⟨hc 0 _ (by omega) rfl,hc 1 _ (by omega) rfl,hc 2 _ (by omega) rfl⟩
end Go.Proofs.YthcfianhdkolhaaGreatDoor.T
