/- LaidP -/
import Derived.Test.YthcfianhdkolhaaGreatDoorRows
import Derived.Test.YthcfianhdkolhaaGreatDoorRfA
import Derived.ProofKit
import Derived.OpenShut
import Derived.SizedLaws
import Derived.Carry
import Derived.Deep.Strs
import Derived.Deep.Slices
import Derived.Deep.MidRow
import Derived.LaidMore
import Derived.Lib.LaidTab
import Derived.Stop.Joined
import Derived.Stop.LaidErr
import Derived.MakeChecks
namespace Go.Proofs.YthcfianhdkolhaaGreatDoor.T
open Go.ChangeShapes Go.WideShapes Go.ChangeAt Go.RowKit Go.Deep Go.Proofs.YthcfianhdkolhaaGreatDoor.S
set_option maxRecDepth 100000
set_option maxHeartbeats 2000000
set_option linter.unusedVariables false
set_option linter.unusedSimpArgs false
instance:Inhabited Nd:=⟨.mk 0 [] 0 []⟩
theorem three {α:Type} {l:List α} (h:l.length=3):∃ a b c,l=[a,b,c]:=by
 match l,h with
 | [a,b,c],_=>exact ⟨a,b,c,rfl⟩
theorem row_of {H:Type} {enc:TypeId × Value→H} {P:Program} {w:World} {base:Nat} {sp:Nat→Bool} {held:Bool} {fuel:Nat} {t e:TypeId} {n c:Nat} {cs:List Value} {zs:List (DataW H)} {p:List MemPlace}
  (ht:P.underlying t=some (.array n e)) (hce:P.cellsOf e=c) (hct:P.cellsOf t=n*c)
  (h:DataW.trod enc P w base sp held fuel t cs=some (.agg zs,p)) (i:Nat) (hi:i<n) (z:DataW H) (hz:zs[i]?=some z):∃ f p',DataW.trod enc P w base sp held f e ((cs.drop (i*c)).take c)=some (z,p'):=by
 cases fuel with
 | zero=>simp [DataW.trod] at h
 | succ fuel=>
  simp only [DataW.trod,ht,hce,hct] at h
  split at h
  ·rename_i hl
   obtain ⟨xs,hm,hx⟩:=Option.map_eq_some_iff.1 h
   have hxs:xs.map (·.1)=zs:=by
    have:=congrArg Prod.fst hx
    simpa using this
   obtain ⟨b,hb,hf⟩:=Lib.mapM_at hm i i (by simp [hi])
   have h2:(xs.map (·.1))[i]?=some b.1:=by simp [hb]
   rw [hxs,hz] at h2
   obtain rfl:z=b.1:=by simpa using h2
   exact ⟨fuel,b.2,hf⟩
  ·cases h
theorem g_opers : Tryz.prog.globalNamed "scarfjoint/syntax.operators" = some 4 := by kernel_rfl
theorem t_opers:(Tryz.prog.globals[4]?).map (·.type)=some 159:=by kernel_rfl
theorem c102:Tryz.prog.cellsOf 158=3:=by kernel_rfl
theorem c105:Tryz.prog.cellsOf 159=10*3:=by kernel_rfl
def operD {H:Type} (s:List UInt8 × Int × Int):DataW H:=.agg [.lit (.string s.1),.lit (.int .i64 s.2.1),.lit (.int .i64 s.2.2)]
theorem d_opers:(Rows.laid_scarfjoint_syntax_operators:DataW Unit)=.agg (opsP.map operD):=by kernel_rfl
theorem oper_cells {H:Type} {enc:TypeId × Value→H} {w:World} {base:Nat} {sp:Nat→Bool} {held:Bool} {f:Nat} {cs:List Value} {s:List UInt8 × Int × Int} {p:List MemPlace} (h:DataW.trod enc Tryz.prog w base sp held f 158 cs=some (operD s,p)):cs=[.string (str s.1),.int .i64 s.2.1,.int .i64 s.2.2]:=by
 have c9:Tryz.prog.cellsOf 9=1:=by kernel_rfl
 have c3:Tryz.prog.cellsOf 3=1:=by kernel_rfl
 have c2:Tryz.prog.cellsOf 2=1:=by kernel_rfl
 obtain ⟨xs,n,hn,hx,hl,hlen,hp⟩:=DataW.trod_struct Tryz.underlying158 h
 rw [c102] at hl
 obtain ⟨k0,k1,k2,rfl⟩:=three hl
 obtain ⟨y0,y1,y2,rfl⟩:=three (show xs.length=3 from hlen)
 have hx':=congrArg Prod.fst hx
 simp [operD] at hx'
 have e0:=hp 0 _ rfl
 have e1:=hp 1 _ rfl
 have e2:=hp 2 _ rfl
 simp [c2,c3,c9] at e0 e1 e2
 obtain ⟨b0,q0,r0,_⟩:=DataW.trod_string Tryz.underlying9 e0
 obtain ⟨b1,q1,r1,_⟩:=DataW.trod_int Tryz.underlying2 e1
 obtain ⟨b2,q2,r2,_⟩:=DataW.trod_int Tryz.underlying3 e2
 subst r0 r1 r2
 simp only [DataW.lit.injEq,Lit.string.injEq,Lit.int.injEq,true_and] at hx'
 obtain ⟨g0,rfl,rfl⟩:=hx'
 simp only [List.cons.injEq,and_true] at q0 q1 q2
 subst q0 q1 q2
 rw [g0]
 rfl
theorem opers_of {W : World} {r : List (String × DataW Unit)} (h : laidMet Tryz.prog (("scarfjoint/syntax.operators", Rows.laid_scarfjoint_syntax_operators) :: r) W) (k : Nat) (hk : k < 10) : W.cell? ⟨4, k * 3, none⟩ = some (.string (str (opr k).1)) ∧ W.cell? ⟨4, k * 3 + 1, none⟩ = some (.int .i64 (opr k).2.1) ∧ W.cell? ⟨4, k * 3 + 2, none⟩ = some (.int .i64 (opr k).2.2) := by
 obtain ⟨ps,⟨g',t',cs,fuel,p,q,hg',ht',hvar,hd,_,_⟩,_⟩:=h
 obtain rfl:=Option.some.inj (g_opers.symm.trans hg')
 obtain rfl:=Option.some.inj (t_opers.symm.trans ht')
 rw [d_opers] at hd
 have hz:(opsP.map operD)[k]?=some (operD (H:=Unit) (opr k)):=by
  have hl:opsP.length=10:=by rfl
  rw [List.getElem?_map,List.getElem?_eq_getElem (by omega)]
  simp only [Option.map_some,opr,List.getD,List.getElem?_eq_getElem (show k<opsP.length by omega),Option.getD_some]
 obtain ⟨f,p',h2⟩:=row_of Tryz.underlying159 c102 c105 hd k hk _ hz
 have h3:=oper_cells h2
 have hc:∀ i v,i<3→(List.take 3 (List.drop (k*3) cs.toList))[i]?=some v→W.cell? ⟨4,k*3+i,none⟩=some v:=fun i v hi hv=>by
  rw [World.var?_cell g_opers hvar (k*3+i),← hv,List.getElem?_take_of_lt hi,List.getElem?_drop,Array.getElem?_toList]
 rw [h3] at hc
 exact ⟨hc 0 _ (by omega) rfl,hc 1 _ (by omega) rfl,hc 2 _ (by omega) rfl⟩
end Go.Proofs.YthcfianhdkolhaaGreatDoor.T
