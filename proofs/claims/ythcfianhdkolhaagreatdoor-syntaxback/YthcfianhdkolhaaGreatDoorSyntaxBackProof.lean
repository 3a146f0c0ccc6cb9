/- For every tree n the call SyntaxBack(n) returns true, and the argument reads behind it as it did: no condition. The card ties the listed variables to the program's text. -/
import Derived.Test.YthcfianhdkolhaaGreatDoorShelf
import Derived.Test.YthcfianhdkolhaaGreatDoorPbA
import Derived.Test.YthcfianhdkolhaaGreatDoorPrO
import Derived.Test.YthcfianhdkolhaaGreatDoorPcD
import Derived.Test.YthcfianhdkolhaaGreatDoorCards
import Derived.Test.YthcfianhdkolhaaGreatDoorTie
import Derived.SizedLaws
import Derived.ShutString
import Derived.ChangeMaps5
namespace Go.Proofs.YthcfianhdkolhaaGreatDoor.Y
open Go.RowKit Go.Proofs.YthcfianhdkolhaaGreatDoor.T Go.Proofs.YthcfianhdkolhaaGreatDoor.S
set_option maxRecDepth 100000
set_option maxHeartbeats 2000000
set_option linter.unusedVariables false
set_option linter.unusedSimpArgs false
variable {w w' : World} {b g : Nat} {m : Value} {ts : List Tok} {t : Tok}
theorem beq_str (x:ByteArray):(x.toList == x.toList)=true:=beq_self_eq_true _
theorem bne_str (x:ByteArray):(x.toList != x.toList)=false:=by unfold bne;rw [beq_str];rfl
theorem bne_int (x:Int):(x != x)=false:=by simp
theorem bne_nat (x:Nat):(x != x)=false:=by simp
def SameN (n:Nd):Prop:=∀ (w:World) (va vb:Value),T.NdO w n va→T.NdO w n vb→Calls Tryz.prog 8 #[va,vb] w fun e w'=>e=.returned (.bool true)∧Below w.heap.size w w'
theorem same_step (kind:Int) (text:List UInt8) (num:Int) (kids:List Nd) (ih:∀ x,x∈kids→SameN x):SameN (.mk kind text num kids):=by
 intro w va vb ha hb
 obtain ⟨ka,kc,rfl,p1,p2,p3,p4,p5,hA⟩:=ha.part
 obtain ⟨kb,kd,rfl,r1,r2,r3,r4,r5,hB⟩:=hb.part
 have HA:=hide hA
 have HB:=hide hB
 have HI:=hide ih
 have hlen:kids.length≤9223372036854775807:=by omega
 clear ha hb hA hB ih p1 p2 p3 p4 p5 r1 r2 r3 r4 r5
 have t1:=beq_str (str text)
 have t2:=bne_str (str text)
 have t3:=bne_int kind
 have t4:=bne_int num
 have t5:=bne_nat kids.length
 have hB0:Below w.heap.size w ((w.alloc (.cells #[.int .i64 kind,.string (str text),.int .i64 num,.slice ka kids.length kc] 24)).alloc (.cells #[.int .i64 kind,.string (str text),.int .i64 num,.slice kb kids.length kd] 24)):=((Below.refl _ _).alloc (Nat.le_refl _) _).alloc (by simp) _
 have hx0:∀ o,((w.alloc (.cells #[.int .i64 kind,.string (str text),.int .i64 num,.slice ka kids.length kc] 24)).alloc (.cells #[.int .i64 kind,.string (str text),.int .i64 num,.slice kb kids.length kd] 24)).cell? ⟨w.heap.size,o,none⟩=(#[Value.int .i64 kind,.string (str text),.int .i64 num,.slice ka kids.length kc])[o]?:=fun o=>(World.cell?_alloc_past _ _ _ (by simp)).trans (World.cell?_alloc_at _ _ _ _ rfl)
 have hy0:∀ o,((w.alloc (.cells #[.int .i64 kind,.string (str text),.int .i64 num,.slice ka kids.length kc] 24)).alloc (.cells #[.int .i64 kind,.string (str text),.int .i64 num,.slice kb kids.length kd] 24)).cell? ⟨w.heap.size+1,o,none⟩=(#[Value.int .i64 kind,.string (str text),.int .i64 num,.slice kb kids.length kd])[o]?:=fun o=>World.cell?_alloc_at _ _ _ _ (by simp)
 have hz0:((w.alloc (.cells #[.int .i64 kind,.string (str text),.int .i64 num,.slice ka kids.length kc] 24)).alloc (.cells #[.int .i64 kind,.string (str text),.int .i64 num,.slice kb kids.length kd] 24)).heap.size=w.heap.size+1+1:=by simp
 have HB0:=hide hB0
 clear hB0
 go_enter Tryz.func8,Tryz.ntmps8
 go_wp2_with fail
 generalize ((w.alloc (.cells #[.int .i64 kind,.string (str text),.int .i64 num,.slice ka kids.length kc] 24)).alloc (.cells #[.int .i64 kind,.string (str text),.int .i64 num,.slice kb kids.length kd] 24))=W at *
 have HW:Hid (∀ w',Below W.heap.size W w'→Below w.heap.size w w'):=fun w' hw=>HB0.out.trans (hw.mono (by omega))
 have HXc:Hid (∀ w',Below W.heap.size W w'→(∀ o,w'.cell? ⟨w.heap.size,o,none⟩=(#[Value.int .i64 kind,.string (str text),.int .i64 num,.slice ka kids.length kc])[o]?)∧(∀ o,w'.cell? ⟨w.heap.size+1,o,none⟩=(#[Value.int .i64 kind,.string (str text),.int .i64 num,.slice kb kids.length kd])[o]?)):=fun w' hw=>⟨fun o=>(hw.cell (p:=⟨w.heap.size,o,none⟩) (by show w.heap.size<_;omega)).trans (hx0 o),fun o=>(hw.cell (p:=⟨w.heap.size+1,o,none⟩) (by show w.heap.size+1<_;omega)).trans (hy0 o)⟩
 clear hx0 hy0 hz0 HB0 t1 t2 t3 t4 t5
 go_loopw [5] (fun i wr=>∃ k:Nat,k≤kids.length∧i=.int .i64 k∧Hid (Below W.heap.size W wr)) (fun i _=>kids.length - (intOf i).toNat)
 case atStart=>exact ⟨0,Nat.zero_le _,rfl,Below.refl _ _⟩
 case round=>
  obtain ⟨k,hk,rfl,HBk⟩:=hrel
  obtain ⟨hx1,hy1⟩:=HXc.out wr HBk.out
  by_cases hlt:k<kids.length
  ·have hlt':(k:Int)<kids.length:=by omega
   have hidx:(0:Int)≤k∧(k:Int)<kids.length:=by omega
   obtain ⟨g1,o1,a0,a1,a2,a3,a4,a5,rfl,hg1,u0,u1,u2,u3,u4⟩:=T.RowO.kid HA.out k hlt
   obtain ⟨g2,o2,b0,b1,b2,b3,b4,b5,rfl,hg2,v0,v1,v2,v3,v4⟩:=T.RowO.kid HB.out k hlt
   have hcal:=fun w' (hw:Below W.heap.size W w')=>HI.out _ (List.getElem_mem hlt) w' _ _ (u4.under (HW.out w' hw)) (v4.under (HW.out w' hw))
   have HSb:Hid (∀ w',Below W.heap.size W w'→(∀ o,w'.cell? ⟨w.heap.size,o,none⟩=(#[Value.int .i64 kind,.string (str text),.int .i64 num,.slice (some ⟨g1,o1,none⟩) kids.length kc])[o]?)∧(∀ o,w'.cell? ⟨w.heap.size+1,o,none⟩=(#[Value.int .i64 kind,.string (str text),.int .i64 num,.slice (some ⟨g2,o2,none⟩) kids.length kd])[o]?)∧w'.cell? ⟨g1,o1+k*4,none⟩=some (.int .i64 a0)∧w'.cell? ⟨g1,o1+k*4+1,none⟩=some (.string a1)∧w'.cell? ⟨g1,o1+k*4+2,none⟩=some (.int .i64 a2)∧w'.cell? ⟨g1,o1+k*4+3,none⟩=some (.slice a3 a4 a5)∧w'.cell? ⟨g2,o2+k*4,none⟩=some (.int .i64 b0)∧w'.cell? ⟨g2,o2+k*4+1,none⟩=some (.string b1)∧w'.cell? ⟨g2,o2+k*4+2,none⟩=some (.int .i64 b2)∧w'.cell? ⟨g2,o2+k*4+3,none⟩=some (.slice b3 b4 b5)):=fun w' hw=>⟨(HXc.out w' hw).1,(HXc.out w' hw).2,T.below_cell (HW.out _ hw) u0,T.below_cell (HW.out _ hw) u1,T.below_cell (HW.out _ hw) u2,T.below_cell (HW.out _ hw) u3,T.below_cell (HW.out _ hw) v0,T.below_cell (HW.out _ hw) v1,T.below_cell (HW.out _ hw) v2,T.below_cell (HW.out _ hw) v3⟩
   clear u0 u1 u2 u3 u4 v0 v1 v2 v3 v4
   go_wp2_with fail
   refine wp_region_held_drew (S:=fun w'=>(∀ o,w'.cell? ⟨w.heap.size,o,none⟩=(#[Value.int .i64 kind,.string (str text),.int .i64 num,.slice (some ⟨g1,o1,none⟩) kids.length kc])[o]?)∧(∀ o,w'.cell? ⟨w.heap.size+1,o,none⟩=(#[Value.int .i64 kind,.string (str text),.int .i64 num,.slice (some ⟨g2,o2,none⟩) kids.length kd])[o]?)∧w'.cell? ⟨g1,o1+k*4,none⟩=some (.int .i64 a0)∧w'.cell? ⟨g1,o1+k*4+1,none⟩=some (.string a1)∧w'.cell? ⟨g1,o1+k*4+2,none⟩=some (.int .i64 a2)∧w'.cell? ⟨g1,o1+k*4+3,none⟩=some (.slice a3 a4 a5)∧w'.cell? ⟨g2,o2+k*4,none⟩=some (.int .i64 b0)∧w'.cell? ⟨g2,o2+k*4+1,none⟩=some (.string b1)∧w'.cell? ⟨g2,o2+k*4+2,none⟩=some (.int .i64 b2)∧w'.cell? ⟨g2,o2+k*4+3,none⟩=some (.slice b3 b4 b5)) (by kernel_rfl) (HSb.out _ HBk.out.drew) (fun hHeld=>?_)
   refine tq 0 ?_
   simp only [qq]
   refine tq 1 ?_
   simp only [qq]
   refine tq 2 ?_
   simp only [qq]
   refine tq 3 ?_
   simp only [qq]
   refine tq 4 ?_
   simp only [qq]
   refine tq 5 ?_
   simp only [qq]
   refine tq 6 ?_
   simp only [qq]
   refine tq 7 ?_
   simp only [qq]
   refine tq 8 ?_
   simp only [qq]
   refine tq 9 ?_
   simp only [qq]
   refine rq 10 fun K hK=>?_
   go_simp
   refine (hcal _ HBk.out.drew).mono ?_
   rintro e w1 ⟨rfl,hb1'⟩
   have HB1:Hid (Below W.heap.size W w1):=HBk.out.drew.trans (hb1'.mono HBk.out.size)
   refine hK.out _ _ (HSb.out _ HB1.out) (fun hHeld2=>?_)
   clear hK K hb1'
   try simp only [qq]
   refine tq 11 ?_
   simp only [qq]
   refine wpAnyH_done (by kernel_rfl) ?_ _
   go_wp2_with fail
   go_roundw
   case rel=>exact ⟨k+1,by omega,by go_num,HB1⟩
   case measure=>simp [intOf];omega
  ·obtain rfl:k=kids.length:=by omega
   have hlt':¬ (kids.length:Int)<kids.length:=by omega
   go_wp2_with fail
   go_ret
   exact ⟨rfl,HW.out _ HBk.out⟩
theorem same_any:∀ n,SameN n:=Nd.ind fun k t v kids ih=>same_step k t v kids ih
end Go.Proofs.YthcfianhdkolhaaGreatDoor.Y
namespace Go.Proofs.YthcfianhdkolhaaGreatDoor.Y
open Go.RowKit Go.Proofs.YthcfianhdkolhaaGreatDoor.T Go.Proofs.YthcfianhdkolhaaGreatDoor.S
open Go.Proofs.YthcfianhdkolhaaGreatDoor.X (Tok toks scan)
set_option maxRecDepth 100000
set_option maxHeartbeats 2000000
set_option linter.unusedVariables false
set_option linter.unusedSimpArgs false
variable {w w' : World} {b g : Nat} {m : Value} {ts : List Tok} {t : Tok}
theorem back_true (hX:X.Gl w) (hT:T.Gl w) (hTb:TabW w) (n:Nd) (v:Value) (hv:T.NdO w n v):Calls Tryz.prog 4 #[v] w fun e w'=>e=.returned (.bool true)∧Below w.heap.size w w':=by
 have HW:Hid (Wf w w []):=Wf.start w
 have HX:=hide hX
 have HT:=hide hT
 have HTb:=hide hTb
 obtain ⟨k_n,t_n,v_n,a_n,l_n,c_n,rfl⟩:=hv.form
 have HV:=hide hv
 clear hX hT hTb hv
 go_enter Tryz.func4,Tryz.ntmps4
 replace HW:=hide (HW.out.alloc' w.heap.size (by simp) #[.int .i64 k_n,.string t_n,.int .i64 v_n,.slice a_n l_n c_n] 24)
 have hc1:=cells_at (HW.out.blk (w.heap.size,#[.int .i64 k_n,.string t_n,.int .i64 v_n,.slice a_n l_n c_n],24) (List.mem_cons_self)).2
 go_wp2_with fail
 generalize w.alloc _=w2 at *
 clear hc1
 go_at_call 9
 refine (print_any (HT.out.below (below_grown HW.out.grown)) (tab_below HTb.out (below_grown HW.out.grown)) n _ (HV.out.under (below_grown HW.out.grown))).mono ?_
 rintro e w3 ⟨s3,c3,hPr,rfl,hB3⟩
 replace HW:=hide (HW.out.quiet (grown_below hB3))
 clear hB3
 have hno:(c3≠0∧s3=[])∨(fitB n=true∧IsUn n∧(shownT n).length≤4000∧s3=shownT n∧c3=0):=by
  rcases hPr with ⟨_,rfl,rfl⟩|⟨_,_,rfl,rfl⟩|⟨_,_,_,rfl,rfl⟩|⟨a1,a2,a3,rfl,rfl⟩
  ·exact Or.inl ⟨by decide,rfl⟩
  ·exact Or.inl ⟨by decide,rfl⟩
  ·exact Or.inl ⟨by decide,rfl⟩
  ·exact Or.inr ⟨a1,a2,a3,rfl,rfl⟩
 clear hPr
 rcases hno with ⟨hne,rfl⟩|⟨hf,hun,hsm,hs,rfl⟩
 ·have hz':(c3 == 0)=false:=by simpa using hne
  have hz2:(c3 != 0)=true:=by simpa using hne
  clear hne
  go_wp2_with fail
  go_ret
  exact ⟨by simp [str],below_grown HW.out.grown⟩
 ·have HR:=hide (And.intro hf (And.intro hun (And.intro hsm hs)))
  clear hf hun hsm hs
  go_wp2_with fail
  go_at_call 6
  refine (parse_post (HX.out.below (below_grown HW.out.grown)) (HT.out.below (below_grown HW.out.grown)) (str s3) (by have:=HR.out.2.2.1;rw [← HR.out.2.2.2] at this;show s3.length≤_;omega)).mono ?_
  rintro e w4 hp
  obtain ⟨h5,h6⟩:=shown_read HR.out.2.1 HR.out.2.2.1
  rw [← HR.out.2.2.2] at h5 h6
  obtain ⟨hG4,v,rfl,hN⟩:=hp.sure h5 h6 HR.out.1
  have HRm:=hide (And.intro h5 h6)
  clear hp h5 h6
  have HG4:Hid (w.heap.size≤w3.heap.size):=HW.out.grown.size
  obtain ⟨k_m,t_m,v_m,a_m,l_m,c_m,rfl⟩:=hN.form
  have HN_m:=hide (HW.out.given hN)
  replace HW:=hide (HW.out.quiet hG4)
  have HZ_m:Hid (w.heap.size≤w3.heap.size):=HG4.out
  clear hG4 hN HG4
  replace HN_m:=hide ((Mv.alloc' w4 w4.heap.size (by simp) #[.int .i64 k_m,.string t_m,.int .i64 v_m,.slice a_m l_m c_m] 24 _ [(w.heap.size,#[.int .i64 k_n,.string t_n,.int .i64 v_n,.slice a_n l_n c_n],24)]).nd HN_m.out)
  replace HW:=hide (HW.out.alloc' w4.heap.size (by simp) #[.int .i64 k_m,.string t_m,.int .i64 v_m,.slice a_m l_m c_m] 24)
  replace HN_m:=hide ((Mv.alloc' (w4.alloc (.cells #[.int .i64 k_m,.string t_m,.int .i64 v_m,.slice a_m l_m c_m] 24)) (w4.heap.size+1) (by simp) #[.int .i64 0,.int .i64 0] 27 _ [(w4.heap.size,#[.int .i64 k_m,.string t_m,.int .i64 v_m,.slice a_m l_m c_m],24),(w.heap.size,#[.int .i64 k_n,.string t_n,.int .i64 v_n,.slice a_n l_n c_n],24)]).nd HN_m.out)
  replace HW:=hide (HW.out.alloc' (w4.heap.size+1) (by simp) #[.int .i64 0,.int .i64 0] 27)
  have hc5:=cells_at (HW.out.blk ((w4.heap.size+1),#[.int .i64 0,.int .i64 0],27) (List.mem_cons_self)).2
  have hc6:=cells_at (HW.out.blk (w4.heap.size,#[.int .i64 k_m,.string t_m,.int .i64 v_m,.slice a_m l_m c_m],24) ((List.mem_cons_of_mem _ List.mem_cons_self))).2
  have hc7:=cells_at (HW.out.blk (w.heap.size,#[.int .i64 k_n,.string t_n,.int .i64 v_n,.slice a_n l_n c_n],24) ((List.mem_cons_of_mem _ (List.mem_cons_of_mem _ List.mem_cons_self)))).2
  go_wp2_with fail
  generalize (w4.alloc _).alloc _=w8 at *
  clear hc5 hc6 hc7
  go_at_call 8
  refine (same_any n _ _ _ (HV.out.under (below_grown HW.out.grown)) (HN_m.out.toO (bd_of HRm.out.1 HRm.out.2))).mono ?_
  rintro e w9 ⟨rfl,hB9⟩
  replace HW:=hide (HW.out.quiet (grown_below hB9))
  clear hB9 HN_m HZ_m
  go_wp2_with fail
  go_ret
  exact ⟨by simp,below_grown HW.out.grown⟩
end Go.Proofs.YthcfianhdkolhaaGreatDoor.Y
namespace Go.Proofs.YthcfianhdkolhaaGreatDoor.syntaxBack
open Go.Proofs.YthcfianhdkolhaaGreatDoor Go.Proofs.YthcfianhdkolhaaGreatDoor.T
open Go.ChangeShapes Go.WideShapes Go.ChangeAt Go.RowKit
set_option maxRecDepth 100000
set_option maxHeartbeats 2000000
set_option linter.unusedVariables false

theorem own:ownKnob Tryz.prog.godebug=none:=by kernel_rfl
theorem laidOut:laidOutB Tryz.prog=true:=by kernel_rfl
theorem read24:Tryz.prog.readableRec 24=true:=by kernel_rfl
theorem row24:24<Tryz.prog.types.size:=of_decide_eq_true (by kernel_rfl)

theorem glob_of {W:World} (h:laidMetH Tryz.prog Rows.syntaxBackRow.laid W):X.Gl W∧T.Gl W∧TabW W:=by
 have h' : laidMet Tryz.prog [("math/bits.deBruijn32tab", Rows.laid_math_bits_deBruijn32tab), ("math/bits.deBruijn64tab", Rows.laid_math_bits_deBruijn64tab), ("internal/strconv.uint64pow10", Rows.laid_internal_strconv_uint64pow10), ("strconv.ErrRange", Rows.laid_strconv_ErrRange), ("strconv.ErrSyntax", Rows.laid_strconv_ErrSyntax), ("scarfjoint/syntax.shapes", Rows.laid_scarfjoint_syntax_shapes), ("scarfjoint/syntax.operators", Rows.laid_scarfjoint_syntax_operators)] W := by
  rw [MakeChecks.laidMetH_plain _ _ _ (by kernel_rfl)] at h
  exact h
 exact ⟨er_of h'.tail.tail.tail,⟨fun k hk=>shapes_of h'.tail.tail.tail.tail.tail k hk,fun k hk=>opers_of h'.tail.tail.tail.tail.tail.tail k hk⟩,tab_of h'.tail.tail⟩

theorem door_met (os:Os) (args:Array Value):laidMetH Tryz.prog Rows.syntaxBackRow.laid ((World.doorLaid Tryz.prog 200 os).forCall (fun _ _=>0) ⟨#[],args,[]⟩).memory:=
 laidMetH_of_parts3 (fuel:=8) (laidMet_of_run' 8 (by kernel_rfl) (by kernel_rfl)) (by kernel_rfl) (by kernel_rfl)

theorem lifted (os:Os) (started:os.Started) (H:Type) (enc:TypeId × Value→H):
  ReturnsInHanded {} Tryz.checked os 4 .any (fun w args=>(Rows.syntaxBackSpec.pre enc Tryz.prog Tryz.f4 [] false w args∧laidMetH Tryz.prog Rows.syntaxBackRow.laid w)∧sizedMet enc Tryz.prog Tryz.f4 (OpenSpec.ofChange Rows.syntaxBackSpec) false w args)
   (Rows.syntaxBackSpec.post enc Tryz.prog Tryz.f4 false true false false):=by
 refine returnsInHanded_of_change_and (C:=Tryz.checked) (X:=fun w _=>laidMetH Tryz.prog Rows.syntaxBackRow.laid w) (fun _ _ _ hh h=>h.of_heap hh) own started (by kernel_rfl) Tryz.func4
  (ChangeSpec.witness_shaped (enc:=enc) (C:=Tryz.checked) (os:=os) (X:=fun w _=>laidMetH Tryz.prog Rows.syntaxBackRow.laid w) false (World.doorLaid Tryz.prog 200 os) #[.agg #[.int .i64 0,.string ⟨#[]⟩,.int .i64 0,.slice none 0 0]] 8 rfl (World.shaped_of_RefB (by kernel_rfl) (by kernel_rfl)) (by kernel_rfl) (by kernel_rfl) (by kernel_rfl) (door_met os _)) ?_
 intro W base args ds gs before hval0 hW _ hsz hL _
 have hval:∀ (j:Nat) t v,Tryz.f4.params[j]?=some t→args[j]?=some v→Value.okWide Tryz.prog W .any base t v:=hval0
 have hW':=hW
 obtain ⟨p,q,hA0,hV,rfl,hfz,hnd⟩:=hW
 have hA:DataW.TrodAll enc Tryz.prog W 0 (fun _=>true) true Tryz.f4.params.toList args.toList ds p:=hA0
 rw [Tryz.params4] at hA hval
 obtain ⟨v0,d0,rfl,rfl,h0⟩:=trodAll_one hA
 obtain ⟨rfl,rfl⟩:=trodVars_none hV
 obtain ⟨n,hn⟩:=open_node (hval 0 24 v0 rfl rfl) h0
 obtain ⟨G1,G2,G3⟩:=glob_of hL
 clear hA0 hval0
 refine (Y.back_true G1 G2 G3 n v0 hn).mono fun e W' ⟨he,hg⟩=>?_
 subst he
 have hlt0:∀ x∈p,x.block<W.heap.size:=fun x hx=>hW'.lt x (by simp [hx])
 exact ⟨_,rfl,post_below2 (pa:=p) (pv:=[]) hW' (fun _ _ _=>trodAll_mk1 (shut_bool Tryz.underlying4 _)) (trodAll_mk1 (Below.trod laidOut read24 row24 h0 hg hlt0)) rfl (by simp) hg⟩

theorem over:Rows.SyntaxBackSaid:=
 OpenClaim.holds_of_wide 4 Tryz.f4 rfl rfl rfl rfl rfl rfl rfl ⟨rfl,rfl,rfl,rfl,rfl⟩ rfl rfl rfl rfl rfl (by kernel_rfl) Tryz.func4 (by kernel_rfl)
  (of_decide_eq_true (by kernel_rfl)) (by unfold Func.isWrapper;first|(rw [if_pos (by decide +kernel)];kernel_rfl)|(rw [if_neg (by decide +kernel)];exact ⟨rfl,rfl⟩))
  (fun os started H enc _=>lifted os started H enc)

theorem proved:Rows.SyntaxBackCardSaid:=
 Claim7.holds_tied_plain_at .later [] [.data, .data, .data, .sentinel, .sentinel, .data, .data] true (true, "4fe14abebd8bc01ad2f6c04ca73406663449811d2f37149aeaebcbf29af9cf77") true
  over (fun _ h=>by cases h) (by kernel_rfl) (fun _ h=>by cases h) syntaxBack_row_tie rfl ⟨rfl,rfl⟩ (by kernel_rfl) rfl
  (fun f fn hf hfn=>by
   obtain rfl : f = 4 := Option.some.inj ((show Tryz.prog.funcNamed "scarfjoint/scarfjointkeep.SyntaxBack" = some 4 by kernel_rfl).symm.trans hf) |>.symm
   obtain rfl:fn=Tryz.f4:=(Option.some.inj (Tryz.func4.symm.trans hfn)).symm
   exact ⟨by kernel_rfl,fun j t ht=>by
    rw [Tryz.params4] at ht
    have hm:t∈[24]:=by simpa using Array.mem_of_getElem? ht
    have hall:([24].all fun u=>!Tryz.prog.wantsStandIn u)=true:=by kernel_rfl
    exact (show Tryz.prog.wantsStandIn t=false by simpa using List.all_eq_true.1 hall t hm)⟩)
  (by kernel_rfl)
#print axioms proved
end Go.Proofs.YthcfianhdkolhaaGreatDoor.syntaxBack
