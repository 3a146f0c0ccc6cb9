/- For every text s the call SyntaxAgain(s) returns true and leaves all as it was: no condition. The card ties the listed variables to the program's text. -/
import Derived.Test.YthcfianhdkolhaaGreatDoorPcD
import Derived.Test.YthcfianhdkolhaaGreatDoorCards
import Derived.Test.YthcfianhdkolhaaGreatDoorTie
import Derived.SizedLaws
import Derived.ShutString
import Derived.ChangeMaps5
namespace Go.Proofs.YthcfianhdkolhaaGreatDoor.Y
open Go.RowKit Go.Proofs.YthcfianhdkolhaaGreatDoor.T Go.Proofs.YthcfianhdkolhaaGreatDoor.S
open Go.Proofs.YthcfianhdkolhaaGreatDoor.X (Tok toks scan)
set_option maxRecDepth 100000
set_option maxHeartbeats 2000000
set_option linter.unusedVariables false
set_option linter.unusedSimpArgs false
variable {w w' : World} {b g : Nat} {m : Value} {ts : List Tok} {t : Tok}
theorem again_true (hX:X.Gl w) (hT:T.Gl w) (hTb:TabW w) (t:ByteArray) (hm:t.size≤9223372036854775807):Calls Tryz.prog 5 #[.string t] w fun e w'=>e=.returned (.bool true)∧Below w.heap.size w w':=by
 have HW:Hid (Wf w w []):=Wf.start w
 have HX:=hide hX
 have HT:=hide hT
 have HTb:=hide hTb
 clear hX hT hTb
 go_enter Tryz.func5,Tryz.ntmps5
 go_wp2_with fail
 go_at_call 6
 refine (parse_post (HX.out.below (below_grown HW.out.grown)) (HT.out.below (below_grown HW.out.grown)) K0 (by decide)).mono ?_
 rintro e w1 hp
 obtain ⟨hG1,v,rfl,hN⟩:=hp.sure known_code known_read known_fit
 clear hp
 have HG1:Hid (w.heap.size≤w.heap.size):=HW.out.grown.size
 obtain ⟨k_k,t_k,v_k,a_k,l_k,c_k,rfl⟩:=hN.form
 have HN_k:=hide (HW.out.given hN)
 replace HW:=hide (HW.out.quiet hG1)
 have HZ_k:Hid (w.heap.size≤w.heap.size):=HG1.out
 clear hG1 hN HG1
 replace HN_k:=hide ((Mv.alloc' w1 w1.heap.size (by simp) #[.int .i64 k_k,.string t_k,.int .i64 v_k,.slice a_k l_k c_k] 24 _ []).nd HN_k.out)
 replace HW:=hide (HW.out.alloc' w1.heap.size (by simp) #[.int .i64 k_k,.string t_k,.int .i64 v_k,.slice a_k l_k c_k] 24)
 replace HN_k:=hide ((Mv.alloc' (w1.alloc (.cells #[.int .i64 k_k,.string t_k,.int .i64 v_k,.slice a_k l_k c_k] 24)) (w1.heap.size+1) (by simp) #[.int .i64 0,.int .i64 0] 27 _ [(w1.heap.size,#[.int .i64 k_k,.string t_k,.int .i64 v_k,.slice a_k l_k c_k],24)]).nd HN_k.out)
 replace HW:=hide (HW.out.alloc' (w1.heap.size+1) (by simp) #[.int .i64 0,.int .i64 0] 27)
 have hc2:=cells_at (HW.out.blk ((w1.heap.size+1),#[.int .i64 0,.int .i64 0],27) (List.mem_cons_self)).2
 have hc3:=cells_at (HW.out.blk (w1.heap.size,#[.int .i64 k_k,.string t_k,.int .i64 v_k,.slice a_k l_k c_k],24) ((List.mem_cons_of_mem _ List.mem_cons_self))).2
 go_wp2_with fail
 generalize (w1.alloc _).alloc _=w4 at *
 clear hc2 hc3
 go_at_call 9
 refine (print_any (HT.out.below (below_grown HW.out.grown)) (tab_below HTb.out (below_grown HW.out.grown)) k0 _ (HN_k.out.toO (bd_of known_code known_read))).mono ?_
 rintro e w5 ⟨s5,c5,hPr,rfl,hB5⟩
 replace HN_k:=hide ((Mv.quiet (grown_below hB5)).nd HN_k.out)
 replace HW:=hide (HW.out.quiet (grown_below hB5))
 clear hB5
 obtain ⟨rfl,rfl⟩:=known_print hPr
 clear hPr
 have hcm:((str [105,110,116,32,103,32,61,32,49,32,59]).toList == ([105,110,116,32,103,32,61,32,49,32,59]:List UInt8))=true:=by rw [cmp_str];exact decide_eq_true rfl
 go_wp2_with fail
 clear hcm HN_k HZ_k
 go_at_call 6
 refine (parse_post (HX.out.below (below_grown HW.out.grown)) (HT.out.below (below_grown HW.out.grown)) t hm).mono ?_
 rintro e w6 ⟨hG6,⟨n,v,h0,hR,hf,rfl,hN⟩|⟨c,a,hno,rfl⟩⟩
 ·have HG6:Hid (w.heap.size≤w5.heap.size):=HW.out.grown.size
  have HRn:=hide (And.intro h0 (And.intro hR hf))
  clear h0 hR hf
  obtain ⟨k_n,t_n,v_n,a_n,l_n,c_n,rfl⟩:=hN.form
  have HN_n:=hide (HW.out.given hN)
  replace HW:=hide (HW.out.quiet hG6)
  have HZ_n:Hid (w.heap.size≤w5.heap.size):=HG6.out
  clear hG6 hN HG6
  replace HN_n:=hide ((Mv.alloc' w6 w6.heap.size (by simp) #[.int .i64 k_n,.string t_n,.int .i64 v_n,.slice a_n l_n c_n] 24 _ [((w1.heap.size+1),#[.int .i64 0,.int .i64 0],27),(w1.heap.size,#[.int .i64 k_k,.string t_k,.int .i64 v_k,.slice a_k l_k c_k],24)]).nd HN_n.out)
  replace HW:=hide (HW.out.alloc' w6.heap.size (by simp) #[.int .i64 k_n,.string t_n,.int .i64 v_n,.slice a_n l_n c_n] 24)
  replace HN_n:=hide ((Mv.alloc' (w6.alloc (.cells #[.int .i64 k_n,.string t_n,.int .i64 v_n,.slice a_n l_n c_n] 24)) (w6.heap.size+1) (by simp) #[.int .i64 0,.int .i64 0] 27 _ [(w6.heap.size,#[.int .i64 k_n,.string t_n,.int .i64 v_n,.slice a_n l_n c_n],24),((w1.heap.size+1),#[.int .i64 0,.int .i64 0],27),(w1.heap.size,#[.int .i64 k_k,.string t_k,.int .i64 v_k,.slice a_k l_k c_k],24)]).nd HN_n.out)
  replace HW:=hide (HW.out.alloc' (w6.heap.size+1) (by simp) #[.int .i64 0,.int .i64 0] 27)
  have hc7:=cells_at (HW.out.blk ((w6.heap.size+1),#[.int .i64 0,.int .i64 0],27) (List.mem_cons_self)).2
  have hc8:=cells_at (HW.out.blk (w6.heap.size,#[.int .i64 k_n,.string t_n,.int .i64 v_n,.slice a_n l_n c_n],24) ((List.mem_cons_of_mem _ List.mem_cons_self))).2
  go_wp2_with fail
  generalize (w6.alloc _).alloc _=w9 at *
  clear hc7 hc8
  go_at_call 9
  refine (print_any (HT.out.below (below_grown HW.out.grown)) (tab_below HTb.out (below_grown HW.out.grown)) n _ (HN_n.out.toO (bd_of HRn.out.1 HRn.out.2.1))).mono ?_
  rintro e w10 ⟨s10,c10,hPr,rfl,hB10⟩
  replace HN_n:=hide ((Mv.quiet (grown_below hB10)).nd HN_n.out)
  replace HW:=hide (HW.out.quiet (grown_below hB10))
  clear hB10
  obtain ⟨hun,hle⟩:=read_un HRn.out.1 HRn.out.2.1
  rcases hPr with ⟨q,_⟩|⟨_,q,_⟩|⟨_,_,hbig,rfl,rfl⟩|⟨_,_,hsm,rfl,rfl⟩
  ·rw [HRn.out.2.2] at q;cases q
  ·exact absurd hun q
  ·have hgt:(1333:Int)<(t.size:Int):=by omega
   clear hbig hle hun
   go_wp2_with fail
   go_ret
   exact ⟨rfl,below_grown HW.out.grown⟩
  ·have HUn:=hide hun
   have HSm:=hide hsm
   clear hun hle hsm
   go_wp2_with fail
   clear HN_n HZ_n
   obtain ⟨sx,hsx⟩:∃ sx,sx=shownT n:=⟨_,rfl⟩
   rw [← hsx]
   have HSx:=hide hsx
   clear hsx
   go_at_call 6
   refine (parse_post (HX.out.below (below_grown HW.out.grown)) (HT.out.below (below_grown HW.out.grown)) (str sx) (by have:=HSm.out;rw [← HSx.out] at this;show sx.length≤_;omega)).mono ?_
   rintro e w11 hp
   obtain ⟨h5,h6⟩:=shown_read HUn.out HSm.out
   rw [← HSx.out] at h5 h6
   obtain ⟨hG11,v,rfl,hN⟩:=hp.sure h5 h6 HRn.out.2.2
   have HRm:=hide (And.intro h5 h6)
   clear hp h5 h6
   have HG11:Hid (w.heap.size≤w10.heap.size):=HW.out.grown.size
   obtain ⟨k_m,t_m,v_m,a_m,l_m,c_m,rfl⟩:=hN.form
   have HN_m:=hide (HW.out.given hN)
   replace HW:=hide (HW.out.quiet hG11)
   have HZ_m:Hid (w.heap.size≤w10.heap.size):=HG11.out
   clear hG11 hN HG11
   replace HN_m:=hide ((Mv.alloc' w11 w11.heap.size (by simp) #[.int .i64 k_m,.string t_m,.int .i64 v_m,.slice a_m l_m c_m] 24 _ [((w6.heap.size+1),#[.int .i64 0,.int .i64 0],27),(w6.heap.size,#[.int .i64 k_n,.string t_n,.int .i64 v_n,.slice a_n l_n c_n],24),((w1.heap.size+1),#[.int .i64 0,.int .i64 0],27),(w1.heap.size,#[.int .i64 k_k,.string t_k,.int .i64 v_k,.slice a_k l_k c_k],24)]).nd HN_m.out)
   replace HW:=hide (HW.out.alloc' w11.heap.size (by simp) #[.int .i64 k_m,.string t_m,.int .i64 v_m,.slice a_m l_m c_m] 24)
   replace HN_m:=hide ((Mv.alloc' (w11.alloc (.cells #[.int .i64 k_m,.string t_m,.int .i64 v_m,.slice a_m l_m c_m] 24)) (w11.heap.size+1) (by simp) #[.int .i64 0,.int .i64 0] 27 _ [(w11.heap.size,#[.int .i64 k_m,.string t_m,.int .i64 v_m,.slice a_m l_m c_m],24),((w6.heap.size+1),#[.int .i64 0,.int .i64 0],27),(w6.heap.size,#[.int .i64 k_n,.string t_n,.int .i64 v_n,.slice a_n l_n c_n],24),((w1.heap.size+1),#[.int .i64 0,.int .i64 0],27),(w1.heap.size,#[.int .i64 k_k,.string t_k,.int .i64 v_k,.slice a_k l_k c_k],24)]).nd HN_m.out)
   replace HW:=hide (HW.out.alloc' (w11.heap.size+1) (by simp) #[.int .i64 0,.int .i64 0] 27)
   have hc12:=cells_at (HW.out.blk ((w11.heap.size+1),#[.int .i64 0,.int .i64 0],27) (List.mem_cons_self)).2
   have hc13:=cells_at (HW.out.blk (w11.heap.size,#[.int .i64 k_m,.string t_m,.int .i64 v_m,.slice a_m l_m c_m],24) ((List.mem_cons_of_mem _ List.mem_cons_self))).2
   go_wp2_with fail
   generalize (w11.alloc _).alloc _=w14 at *
   clear hc12 hc13
   go_at_call 9
   refine (print_any (HT.out.below (below_grown HW.out.grown)) (tab_below HTb.out (below_grown HW.out.grown)) n _ (HN_m.out.toO (bd_of HRm.out.1 HRm.out.2))).mono ?_
   rintro e w15 ⟨s15,c15,hPr,rfl,hB15⟩
   replace HN_m:=hide ((Mv.quiet (grown_below hB15)).nd HN_m.out)
   replace HW:=hide (HW.out.quiet (grown_below hB15))
   clear hB15
   have h2:PrR n (shownT n) 0:=Or.inr (Or.inr (Or.inr ⟨HRn.out.2.2,HUn.out,HSm.out,rfl,rfl⟩))
   obtain ⟨hs9,rfl⟩:=hPr.one h2
   rw [← HSx.out] at hs9
   subst hs9
   clear hPr h2
   have hc16:=cells_at (HW.out.blk ((w11.heap.size+1),#[.int .i64 0,.int .i64 0],27) (List.mem_cons_self)).2
   have hc17:=cells_at (HW.out.blk (w11.heap.size,#[.int .i64 k_m,.string t_m,.int .i64 v_m,.slice a_m l_m c_m],24) ((List.mem_cons_of_mem _ List.mem_cons_self))).2
   go_wp2_with fail
   clear hc16 hc17
   go_ret
   exact ⟨by simp,below_grown HW.out.grown⟩
 ·have hz':(c == 0)=false:=by simpa using hno.ne
  clear hno
  replace HW:=hide (HW.out.quiet hG6)
  clear hG6
  replace HW:=hide (HW.out.alloc' w6.heap.size (by simp) #[.int .i64 0,.string ⟨#[]⟩,.int .i64 0,.slice none 0 0] 24)
  replace HW:=hide (HW.out.alloc' (w6.heap.size+1) (by simp) #[.int .i64 c,.int .i64 a] 27)
  have hc11:=cells_at (HW.out.blk ((w6.heap.size+1),#[.int .i64 c,.int .i64 a],27) (List.mem_cons_self)).2
  have hc12:=cells_at (HW.out.blk (w6.heap.size,#[.int .i64 0,.string ⟨#[]⟩,.int .i64 0,.slice none 0 0],24) ((List.mem_cons_of_mem _ List.mem_cons_self))).2
  go_wp2_with fail
  generalize (w6.alloc _).alloc _=w13 at *
  clear hc11 hc12
  go_ret
  exact ⟨rfl,below_grown HW.out.grown⟩
end Go.Proofs.YthcfianhdkolhaaGreatDoor.Y
namespace Go.Proofs.YthcfianhdkolhaaGreatDoor.syntaxAgain
open Go.Proofs.YthcfianhdkolhaaGreatDoor Go.Proofs.YthcfianhdkolhaaGreatDoor.T
open Go.ChangeShapes Go.WideShapes Go.ChangeAt Go.RowKit
set_option maxRecDepth 100000
set_option maxHeartbeats 2000000
set_option linter.unusedVariables false

theorem own:ownKnob Tryz.prog.godebug=none:=by kernel_rfl

theorem glob_of {W:World} (h:laidMetH Tryz.prog Rows.syntaxAgainRow.laid W):X.Gl W∧T.Gl W∧TabW W:=by
 have h' : laidMet Tryz.prog [("math/bits.deBruijn32tab", Rows.laid_math_bits_deBruijn32tab), ("math/bits.deBruijn64tab", Rows.laid_math_bits_deBruijn64tab), ("internal/strconv.uint64pow10", Rows.laid_internal_strconv_uint64pow10), ("strconv.ErrRange", Rows.laid_strconv_ErrRange), ("strconv.ErrSyntax", Rows.laid_strconv_ErrSyntax), ("scarfjoint/syntax.shapes", Rows.laid_scarfjoint_syntax_shapes), ("scarfjoint/syntax.operators", Rows.laid_scarfjoint_syntax_operators)] W := by
  rw [MakeChecks.laidMetH_plain _ _ _ (by kernel_rfl)] at h
  exact h
 exact ⟨er_of h'.tail.tail.tail,⟨fun k hk=>shapes_of h'.tail.tail.tail.tail.tail k hk,fun k hk=>opers_of h'.tail.tail.tail.tail.tail.tail k hk⟩,tab_of h'.tail.tail⟩

theorem door_met (os:Os) (args:Array Value):laidMetH Tryz.prog Rows.syntaxAgainRow.laid ((World.doorLaid Tryz.prog 200 os).forCall (fun _ _=>0) ⟨#[],args,[]⟩).memory:=
 laidMetH_of_parts3 (fuel:=8) (laidMet_of_run' 8 (by kernel_rfl) (by kernel_rfl)) (by kernel_rfl) (by kernel_rfl)

theorem lifted (os:Os) (started:os.Started) (H:Type) (enc:TypeId × Value→H):
  ReturnsInHanded {} Tryz.checked os 5 .any (fun w args=>(Rows.syntaxAgainSpec.pre enc Tryz.prog Tryz.f5 [] false w args∧laidMetH Tryz.prog Rows.syntaxAgainRow.laid w)∧sizedMet enc Tryz.prog Tryz.f5 (OpenSpec.ofChange Rows.syntaxAgainSpec) false w args)
   (Rows.syntaxAgainSpec.post enc Tryz.prog Tryz.f5 false true false false):=by
 refine returnsInHanded_of_change_and (C:=Tryz.checked) (X:=fun w _=>laidMetH Tryz.prog Rows.syntaxAgainRow.laid w) (fun _ _ _ hh h=>h.of_heap hh) own started (by kernel_rfl) Tryz.func5
  (ChangeSpec.witness_shaped (enc:=enc) (C:=Tryz.checked) (os:=os) (X:=fun w _=>laidMetH Tryz.prog Rows.syntaxAgainRow.laid w) false (World.doorLaid Tryz.prog 200 os) #[.string ⟨#[]⟩] 8 rfl (World.shaped_of_RefB (by kernel_rfl) (by kernel_rfl)) (by kernel_rfl) (by kernel_rfl) (by kernel_rfl) (door_met os _)) ?_
 intro W base args ds gs before hval0 hW _ hsz hL _
 have hval:∀ (j:Nat) t v,Tryz.f5.params[j]?=some t→args[j]?=some v→Value.okWide Tryz.prog W .any base t v:=hval0
 have hW':=hW
 obtain ⟨p,q,hA0,hV,rfl,hfz,hnd⟩:=hW
 have hA:DataW.TrodAll enc Tryz.prog W 0 (fun _=>true) true Tryz.f5.params.toList args.toList ds p:=hA0
 rw [Tryz.params5] at hA hval
 obtain ⟨v0,d0,rfl,rfl,h0⟩:=trodAll_one hA
 obtain ⟨rfl,rfl⟩:=trodVars_none hV
 obtain ⟨s,rfl,rfl,rfl,ws⟩:=Go.ChangeMaps.open_string Tryz.underlying9 (hval 0 9 v0 rfl rfl) h0
 have hsz2:(DataW.weightsEach Tryz.prog (Tryz.f5.params.toList++Rows.syntaxAgainSpec.plain.varTypes Tryz.prog) ([.lit (.string s.data.toList)]++[])).all (·≤reachBytes)=true:=hsz
 rw [Tryz.params5] at hsz2
 have hsz1:s.size≤9223372036854775807:=by
  have h1:=sized_string hsz2 (j:=0) (t:=9) rfl rfl
  have h47:=reachBytes_lt
  have e1:s.size=s.data.size:=rfl
  have e2:s.data.toList.length=s.data.size:=Array.length_toList
  have e3:(2:Nat) ^ 47=140737488355328:=by decide
  omega
 obtain ⟨G1,G2,G3⟩:=glob_of hL
 clear hA0 hval0
 simp only [List.append_nil] at hW'
 refine (Y.again_true G1 G2 G3 s hsz1).mono fun e W' ⟨he,hg⟩=>?_
 subst he
 exact ⟨_,rfl,post_below (pa:=[]) (pv:=[]) hW' (fun _ _ _=>trodAll_mk1 (shut_bool Tryz.underlying4 _)) (fun sp _=>trodAll_mk1 (Go.ChangeMaps.shut_string Tryz.underlying9 ws)) (fun _ _=>rfl) rfl hg⟩

theorem over:Rows.SyntaxAgainSaid:=
 OpenClaim.holds_of_wide 5 Tryz.f5 rfl rfl rfl rfl rfl rfl rfl ⟨rfl,rfl,rfl,rfl,rfl⟩ rfl rfl rfl rfl rfl (by kernel_rfl) Tryz.func5 (by kernel_rfl)
  (of_decide_eq_true (by kernel_rfl)) (by unfold Func.isWrapper;first|(rw [if_pos (by decide +kernel)];kernel_rfl)|(rw [if_neg (by decide +kernel)];exact ⟨rfl,rfl⟩))
  (fun os started H enc _=>lifted os started H enc)

theorem proved:Rows.SyntaxAgainCardSaid:=
 Claim7.holds_tied_plain_at .later [] [.data, .data, .data, .sentinel, .sentinel, .data, .data] true (true, "4fe14abebd8bc01ad2f6c04ca73406663449811d2f37149aeaebcbf29af9cf77") true
  over (fun _ h=>by cases h) (by kernel_rfl) (fun _ h=>by cases h) syntaxAgain_row_tie rfl ⟨rfl,rfl⟩ (by kernel_rfl) rfl
  (fun f fn hf hfn=>by
   obtain rfl : f = 5 := Option.some.inj ((show Tryz.prog.funcNamed "scarfjoint/scarfjointkeep.SyntaxAgain" = some 5 by kernel_rfl).symm.trans hf) |>.symm
   obtain rfl:fn=Tryz.f5:=(Option.some.inj (Tryz.func5.symm.trans hfn)).symm
   exact ⟨by kernel_rfl,fun j t ht=>by
    rw [Tryz.params5] at ht
    have hm:t∈[9]:=by simpa using Array.mem_of_getElem? ht
    have hall:([9].all fun u=>!Tryz.prog.wantsStandIn u)=true:=by kernel_rfl
    exact (show Tryz.prog.wantsStandIn t=false by simpa using List.all_eq_true.1 hall t hm)⟩)
  (by kernel_rfl)
#print axioms proved
end Go.Proofs.YthcfianhdkolhaaGreatDoor.syntaxAgain
