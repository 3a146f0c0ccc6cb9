/- XTok XPPass XToken XPScan -/
import Derived.Test.YthcfianhdkolhaaGreatDoorXLx
import Derived.WalkMore
import Derived.ScopeJumps
namespace Go.Proofs.YthcfianhdkolhaaGreatDoor.X
open Go.RowKit
set_option maxRecDepth 100000
set_option maxHeartbeats 2000000
set_option linter.unusedVariables false
set_option linter.unusedSimpArgs false
variable {w0 w : World} {b : Nat} {t : ByteArray} {c p : Int} {i : Nat} {L : List Tok}
theorem word_any (h:Sc w0 w b t c p i L) (x:ByteArray) (h1:1≤x.size) (hx:i+x.size≤t.size):Calls Tryz.prog 43 #[.pointer (some ⟨b,0,none⟩),.string x] w fun e w'=>(∃ v,e=.returned v)∧if 16<x.size then Sc w0 w' b t 1 i i L else Sc w0 w' b t c p (i+x.size) (L++[⟨1,x,i⟩]):=by
 have hlen:=h.len
 by_cases h16:16<x.size
 ·rw [show (fun (e:Ending) (w':World)=>(∃ v,e=.returned v)∧if 16<x.size then Sc w0 w' b t 1 i i L else Sc w0 w' b t c p (i+x.size) (L++[⟨1,x,i⟩]))=fun e w'=>(∃ v,e=.returned v)∧Sc w0 w' b t 1 i i L from funext fun e=>funext fun w'=>by rw [if_pos h16]]
  have hf:=fail_any h 1
  have d:(16:Int)<x.size:=by omega
  go_enter Tryz.func43,Tryz.ntmps43
  go_wp2_with fail
  go_at_call 60
  refine hf.mono ?_
  rintro e w1 ⟨⟨v,rfl⟩,hS⟩
  have HS:=hide hS
  clear hS
  go_wp2_with fail
  refine bodyPost_ret (results_none rfl _ _ _) rfl ?_
  exact ⟨⟨_,rfl⟩,HS.out⟩
 ·rw [show (fun (e:Ending) (w':World)=>(∃ v,e=.returned v)∧if 16<x.size then Sc w0 w' b t 1 i i L else Sc w0 w' b t c p (i+x.size) (L++[⟨1,x,i⟩]))=fun e w'=>(∃ v,e=.returned v)∧Sc w0 w' b t c p (i+x.size) (L++[⟨1,x,i⟩]) from funext fun e=>funext fun w'=>by rw [if_neg h16]]
  have hf:=take_any h 1 x x.size h1 hx (by omega)
  have d:¬ (16:Int)<x.size:=by omega
  go_enter Tryz.func43,Tryz.ntmps43
  go_wp2_with fail
  go_at_call 61
  refine hf.mono ?_
  rintro e w1 ⟨⟨v,rfl⟩,hS⟩
  have HS:=hide hS
  clear hS
  go_wp2_with fail
  go_end0
  exact ⟨⟨_,rfl⟩,HS.out⟩
theorem decimal_any (x:ByteArray) (w:World) (h1:1≤x.size) (hx:x.size≤4000):Calls Tryz.prog 63 #[.string x] w fun e w'=>e=.returned (.bool (decB x))∧w'=w:=by
 obtain ⟨r,hr⟩:∃ r,r=decB x:=⟨_,rfl⟩
 rw [← hr]
 have HR:=hide hr
 clear hr
 go_enter Tryz.func63,Tryz.ntmps63
 go_wp2_with fail
 go_loopw [6] (fun e' wr=>∃ j:Nat,j≤x.size∧e'=.int .i64 j∧wr=w∧Hid (∀ k,k<j→digB (byteAt x k)=true)) (fun e' _=>x.size - (intOf e').toNat)
 case atStart=>exact ⟨0,Nat.zero_le _,rfl,rfl,fun k _=>by omega⟩
 case round=>
  obtain ⟨j,hjs,rfl,rfl,HE⟩:=hrel
  by_cases hjt:j<x.size
  ·have hjt':(j:Int)<x.size:=by omega
   have hjid:(0:Int)≤j∧(j:Int)<x.size:=by omega
   have hj8:x[j].toNat<256:=UInt8.toNat_lt _
   have HB:=hide (byteAt_get x j hjt)
   have hcall:=fun w'=>pdigit_any x[j].toNat w' hj8
   cases hI:digB x[j].toNat with
   | true=>
    rw [hI] at hcall
    have HE3:Hid (∀ k,k<j+1→digB (byteAt x k)=true):=fun k k2=>by
     by_cases e:k=j
     ·subst e;rw [HB.out];exact hI
     ·exact HE.out k (by omega)
    clear hI
    go_wp2_with fail
    go_at_call 45
    refine (hcall _).mono ?_
    rintro e w1 ⟨rfl,rfl⟩
    go_wp2_with fail
    go_roundw
    case rel=>exact ⟨j+1,by omega,by go_num,trivial,HE3⟩
    case measure=>simp [intOf];omega
   | false=>
    rw [hI] at hcall
    have hrf:r=false:=by
     rw [HR.out]
     unfold decB
     have:((List.range x.size).all fun i=>digB (byteAt x i))=false:=by
      rw [Bool.eq_false_iff]
      intro e
      have:=List.all_eq_true.1 e j (List.mem_range.2 hjt)
      rw [HB.out,hI] at this
      cases this
     rw [this]
     rfl
    clear hI
    go_wp2_with fail
    go_at_call 45
    refine (hcall _).mono ?_
    rintro e w1 ⟨rfl,rfl⟩
    go_wp2_with fail
    go_ret
    exact ⟨by rw [hrf];rfl,rfl⟩
  ·have hjn:j=x.size:=by omega
   subst hjn
   have hjt':¬ (x.size:Int)<x.size:=by omega
   have h0:0<x.size:=by omega
   have h0i:(0:Int)<x.size:=by omega
   have HA:Hid (r=(decide (x.size=1) || !decide (byteAt x 0=48))):=by
    show _=_
    rw [HR.out]
    unfold decB
    rw [List.all_eq_true.2 (fun i hi=>HE.out i (List.mem_range.1 hi)),Bool.true_and]
   have HB:=hide (byteAt_get x 0 h0)
   by_cases e1:x.size=1
   ·have d1:((x.size:Int) == 1)=true:=by simp;omega
    have hrt:r=true:=by rw [HA.out,decide_eq_true e1];rfl
    clear e1
    go_wp2_with fail
    go_ret
    exact ⟨rfl,rfl⟩
   ·have d1:((x.size:Int) == 1)=false:=by simp;omega
    by_cases e2:x[0].toNat=48
    ·have d2:((x[0].toNat:Int) != 48)=false:=by simp;omega
     have hrt:r=false:=by rw [HA.out,decide_eq_false e1,HB.out,decide_eq_true e2];rfl
     clear e2 e1
     go_wp2_with fail
     go_ret
     exact ⟨rfl,rfl⟩
    ·have d2:((x[0].toNat:Int) != 48)=true:=by simp;omega
     have hrt:r=true:=by rw [HA.out,decide_eq_false e1,HB.out,decide_eq_false e2];rfl
     clear e2 e1
     go_wp2_with fail
     go_ret
     exact ⟨rfl,rfl⟩
def Gl (w:World):Prop:=∃ te pe,w.cell? ⟨3,0,none⟩=some (.iface te pe)
theorem Gl.lt (h:Gl w):3<w.heap.size:=by
 obtain ⟨te,pe,h⟩:=h
 exact Lib.lt_of_cell h
theorem Gl.below {w':World} (h:Gl w) (hb:Below w.heap.size w w'):Gl w':=by
 have hl:=h.lt
 obtain ⟨te,pe,h⟩:=h
 exact ⟨te,pe,(hb.cell (p:=⟨3,0,none⟩) hl).trans h⟩
theorem below_bytes {w w':World} (h:w'=w∨∃ t,w'=Lib.bytesWorld w 5 t):Below w.heap.size w w':=by
 rcases h with rfl|⟨t,rfl⟩
 ·exact Below.refl _ _
 ·exact Lib.bytesWorld_below _ _ _
def NumPost (w0 w':World) (b:Nat) (t:ByteArray) (c p:Int) (i:Nat) (L:List Tok) (x:ByteArray):Prop:=if rowCode x=0 then Sc w0 w' b t c p (i+x.size) (L++[⟨if isL x then 3 else 2,rowText x,i⟩]) else Sc w0 w' b t (rowCode x) i i L
theorem num_bad {w':World} {x:ByteArray} {q:Int} (h:rowCode x=q) (hq:q≠0) (hs:Sc w0 w' b t q i i L):NumPost w0 w' b t c p i L x:=by
 unfold NumPost
 rw [h,if_neg hq]
 exact hs
theorem num_ok {w':World} {x:ByteArray} (h:rowCode x=0) (hs:Sc w0 w' b t c p (i+x.size) (L++[⟨if isL x then 3 else 2,rowText x,i⟩])):NumPost w0 w' b t c p i L x:=by
 unfold NumPost
 rw [h,if_pos rfl]
 exact hs
theorem number_any (G:Gl w0) (h:Sc w0 w b t c p i L) (x:ByteArray) (h1:1≤x.size) (hx:i+x.size≤t.size) (hd:digB (byteAt x 0)=true):Calls Tryz.prog 46 #[.pointer (some ⟨b,0,none⟩),.string x] w fun e w'=>(∃ v,e=.returned v)∧NumPost w0 w' b t c p i L x:=by
 have hlen:=h.len
 have hcut:=fun w'=>Tryz.strings_CutSuffix x ⟨#[76]⟩ w' (by omega)
 rw [show (⟨#[76]⟩:ByteArray).data.toList=[76] from rfl,trim_text x h1,suf_isL x h1] at hcut
 have hp:=text_pos x h1 hd
 have hps:=text_size x h1
 have hps2:(rowText x).size≤4000:=by rw [hps];split<;>omega
 have HRC:Hid (rowCode x=rowC (rowText x) (if isL x then mostL else mostW)):=rfl
 have hdec:=fun w'=>decimal_any (rowText x) w' hp hps2
 have HBad:=hide (rowC_bad (rowText x) (if isL x then mostL else mostW) hp)
 have HW:=hide (rowC_w (rowText x) hp)
 have HL:=hide (rowC_l (rowText x) hp)
 have HOk:Hid (∀ w':World,rowCode x=0→Sc w0 w' b t c p (i+x.size) (L++[⟨if isL x then 3 else 2,rowText x,i⟩])→NumPost w0 w' b t c p i L x):=fun w' h1 h2=>num_ok h1 h2
 clear hps
 have hk:∀ w' k,Sc w0 w' b t c p i L→Calls Tryz.prog 61 #[.pointer (some ⟨b,0,none⟩),.int .i64 k,.string (rowText x),.int .i64 x.size] w' fun e w''=>(∃ v,e=.returned v)∧Sc w0 w'' b t c p (i+x.size) (L++[⟨k,rowText x,i⟩]):=fun w' k hs=>take_any hs k (rowText x) x.size h1 hx hps2
 have hfl:=fun w' (hs:Sc w0 w' b t c p i L) q=>fail_any hs q
 have HS:=hide h
 clear h
 have hok32:∀ v,Lib.parseIntB 32 (rowText x).data.toList=.ok v→∀ w',Calls Tryz.prog 64 #[.string (rowText x),.int .i64 10,.int .i64 32] w' fun e w''=>e=.returned (.tuple #[.int .i64 v,.nilIface])∧(w''=w'∨∃ t,w''=Lib.bytesWorld w' 5 t):=fun v hv w'=>Tryz.strconv_ParseInt_10_at32_ok (rowText x) (by omega) v hv w'
 have hok64:∀ v,Lib.parseIntB 64 (rowText x).data.toList=.ok v→∀ w',Calls Tryz.prog 64 #[.string (rowText x),.int .i64 10,.int .i64 64] w' fun e w''=>e=.returned (.tuple #[.int .i64 v,.nilIface])∧(w''=w'∨∃ t,w''=Lib.bytesWorld w' 5 t):=fun v hv w'=>Tryz.strconv_ParseInt_10_at64_ok (rowText x) (by omega) v hv w'
 have hr32:Lib.parseIntB 32 (rowText x).data.toList=.range→∀ w' te pe,w'.cell? ⟨3,0,none⟩=some (.iface te pe)→Calls Tryz.prog 64 #[.string (rowText x),.int .i64 10,.int .i64 32] w' fun e w''=>∃ N,e=.returned (.tuple #[.int .i64 (Lib.intSat 32 (rowText x).data.toList),.iface 121 (.pointer (some ⟨N,0,none⟩))])∧Below w'.heap.size w' w'':=fun hv w' te pe he=>(Tryz.strconv_ParseInt_10_at32_range (rowText x) (by omega) hv _ w' he (Or.inr ⟨te,pe,rfl⟩)).mono fun e w'' ⟨N,h1,_,_,h2⟩=>⟨N,h1,h2⟩
 have hr64:Lib.parseIntB 64 (rowText x).data.toList=.range→∀ w' te pe,w'.cell? ⟨3,0,none⟩=some (.iface te pe)→Calls Tryz.prog 64 #[.string (rowText x),.int .i64 10,.int .i64 64] w' fun e w''=>∃ N,e=.returned (.tuple #[.int .i64 (Lib.intSat 64 (rowText x).data.toList),.iface 121 (.pointer (some ⟨N,0,none⟩))])∧Below w'.heap.size w' w'':=fun hv w' te pe he=>(Tryz.strconv_ParseInt_10_at64_range (rowText x) (by omega) hv _ w' he (Or.inr ⟨te,pe,rfl⟩)).mono fun e w'' ⟨N,h1,_,_,h2⟩=>⟨N,h1,h2⟩
 have hGw:=G.below HS.out.below
 generalize (rowText x)=y at *
 cases hI:isL x with
 | false=>
  rw [hI] at hcut HRC HBad HOk
  clear hI
  cases hD:decB y with
  | false=>
   rw [hD] at hdec
   have hc2:=HBad.out hD
   have HQ:Hid (rowCode x=2):=HRC.out.trans hc2
   have hf:=hfl w HS.out 2
   clear hc2 HBad HW HL hok32 hok64 hr32 hr64 hk hfl
   go_enter Tryz.func46,Tryz.ntmps46
   go_wp2_with fail
   go_at_call 62
   refine (hcut _).mono ?_
   rintro e w1 ⟨rfl,rfl⟩
   go_wp2_with fail
   go_at_call 63
   refine (hdec _).mono ?_
   rintro e w1 ⟨rfl,rfl⟩
   go_wp2_with fail
   go_at_call 60
   refine hf.mono ?_
   rintro e w1 ⟨⟨v,rfl⟩,hS⟩
   have HS1:=hide hS
   clear hS
   go_wp2_with fail
   refine bodyPost_ret (results_none rfl _ _ _) rfl ?_
   exact ⟨⟨_,rfl⟩,num_bad HQ.out (by decide) HS1.out⟩
  | true=>
   rw [hD] at hdec
   rcases HW.out hD with ⟨hv,hc2⟩|⟨⟨vv,hv⟩,hc2⟩
   ·have HQ:Hid (rowCode x=6):=HRC.out.trans hc2
    obtain ⟨te,pe,hcell⟩:=hGw
    have hpi:=hr32 hv w te pe hcell
    have HSk:=HS
    clear hc2 HBad HW HL hok32 hok64 hr32 hr64 hk hcell hv
    generalize Lib.intSat 32 y.data.toList=sat at hpi
    go_enter Tryz.func46,Tryz.ntmps46
    go_wp2_with fail
    go_at_call 62
    refine (hcut _).mono ?_
    rintro e w1 ⟨rfl,rfl⟩
    go_wp2_with fail
    go_at_call 63
    refine (hdec _).mono ?_
    rintro e w1 ⟨rfl,rfl⟩
    go_wp2_with fail
    go_at_call 64
    refine hpi.mono ?_
    rintro e w2 ⟨N,rfl,hb2⟩
    have hf:=hfl w2 (HSk.out.kept hb2) 6
    clear hfl
    go_wp2_with fail
    go_at_call 60
    refine hf.mono ?_
    rintro e w3 ⟨⟨v,rfl⟩,hS⟩
    have HS1:=hide hS
    clear hS
    go_wp2_with fail
    refine bodyPost_ret (results_none rfl _ _ _) rfl ?_
    exact ⟨⟨_,rfl⟩,num_bad HQ.out (by decide) HS1.out⟩
   ·have HQ:Hid (rowCode x=0):=HRC.out.trans hc2
    have hpi:=hok32 vv hv w
    clear hc2 HBad HW HL hok32 hok64 hr32 hr64 hfl hv hGw
    go_enter Tryz.func46,Tryz.ntmps46
    go_wp2_with fail
    go_at_call 62
    refine (hcut _).mono ?_
    rintro e w1 ⟨rfl,rfl⟩
    go_wp2_with fail
    go_at_call 63
    refine (hdec _).mono ?_
    rintro e w1 ⟨rfl,rfl⟩
    go_wp2_with fail
    go_at_call 64
    refine hpi.mono ?_
    rintro e w2 ⟨rfl,hb2⟩
    have hf:=hk w2 2 (HS.out.kept (below_bytes hb2))
    clear hk
    go_wp2_with fail
    go_at_call 61
    refine hf.mono ?_
    rintro e w3 ⟨⟨v,rfl⟩,hS⟩
    have HS1:=hide hS
    clear hS
    go_wp2_with fail
    go_end0
    exact ⟨⟨_,rfl⟩,HOk.out _ HQ.out HS1.out⟩
 | true=>
  rw [hI] at hcut HRC HBad HOk
  clear hI
  cases hD:decB y with
  | false=>
   rw [hD] at hdec
   have hc2:=HBad.out hD
   have HQ:Hid (rowCode x=2):=HRC.out.trans hc2
   have hf:=hfl w HS.out 2
   clear hc2 HBad HW HL hok32 hok64 hr32 hr64 hk hfl
   go_enter Tryz.func46,Tryz.ntmps46
   go_wp2_with fail
   go_at_call 62
   refine (hcut _).mono ?_
   rintro e w1 ⟨rfl,rfl⟩
   go_wp2_with fail
   go_at_call 63
   refine (hdec _).mono ?_
   rintro e w1 ⟨rfl,rfl⟩
   go_wp2_with fail
   go_at_call 60
   refine hf.mono ?_
   rintro e w1 ⟨⟨v,rfl⟩,hS⟩
   have HS1:=hide hS
   clear hS
   go_wp2_with fail
   refine bodyPost_ret (results_none rfl _ _ _) rfl ?_
   exact ⟨⟨_,rfl⟩,num_bad HQ.out (by decide) HS1.out⟩
  | true=>
   rw [hD] at hdec
   rcases HL.out hD with ⟨hv,hc2⟩|⟨⟨vv,hv⟩,hc2⟩
   ·have HQ:Hid (rowCode x=6):=HRC.out.trans hc2
    obtain ⟨te,pe,hcell⟩:=hGw
    have hpi:=hr64 hv w te pe hcell
    have HSk:=HS
    clear hc2 HBad HW HL hok32 hok64 hr32 hr64 hk hcell hv
    generalize Lib.intSat 64 y.data.toList=sat at hpi
    go_enter Tryz.func46,Tryz.ntmps46
    go_wp2_with fail
    go_at_call 62
    refine (hcut _).mono ?_
    rintro e w1 ⟨rfl,rfl⟩
    go_wp2_with fail
    go_at_call 63
    refine (hdec _).mono ?_
    rintro e w1 ⟨rfl,rfl⟩
    go_wp2_with fail
    go_at_call 64
    refine hpi.mono ?_
    rintro e w2 ⟨N,rfl,hb2⟩
    have hf:=hfl w2 (HSk.out.kept hb2) 6
    clear hfl
    go_wp2_with fail
    go_at_call 60
    refine hf.mono ?_
    rintro e w3 ⟨⟨v,rfl⟩,hS⟩
    have HS1:=hide hS
    clear hS
    go_wp2_with fail
    refine bodyPost_ret (results_none rfl _ _ _) rfl ?_
    exact ⟨⟨_,rfl⟩,num_bad HQ.out (by decide) HS1.out⟩
   ·have HQ:Hid (rowCode x=0):=HRC.out.trans hc2
    have hpi:=hok64 vv hv w
    clear hc2 HBad HW HL hok32 hok64 hr32 hr64 hfl hv hGw
    go_enter Tryz.func46,Tryz.ntmps46
    go_wp2_with fail
    go_at_call 62
    refine (hcut _).mono ?_
    rintro e w1 ⟨rfl,rfl⟩
    go_wp2_with fail
    go_at_call 63
    refine (hdec _).mono ?_
    rintro e w1 ⟨rfl,rfl⟩
    go_wp2_with fail
    go_at_call 64
    refine hpi.mono ?_
    rintro e w2 ⟨rfl,hb2⟩
    have hf:=hk w2 3 (HS.out.kept (below_bytes hb2))
    clear hk
    go_wp2_with fail
    go_at_call 61
    refine hf.mono ?_
    rintro e w3 ⟨⟨v,rfl⟩,hS⟩
    have HS1:=hide hS
    clear hS
    go_wp2_with fail
    go_end0
    exact ⟨⟨_,rfl⟩,HOk.out _ HQ.out HS1.out⟩
def SgPost (w0 w':World) (b:Nat) (t:ByteArray) (c p:Int) (i:Nat) (L:List Tok) (s:ByteArray):Prop:=if s.size=0 then Sc w0 w' b t 2 i i L else Sc w0 w' b t c p (i+s.size) (L++[⟨4,s,i⟩])
theorem sg_ok {w':World} {s x:ByteArray} (e:s=x) (h:x.size≠0) (hs:Sc w0 w' b t c p (i+x.size) (L++[⟨4,x,i⟩])):SgPost w0 w' b t c p i L s:=by
 unfold SgPost
 subst e
 rw [if_neg h]
 exact hs
theorem sg_bad {w':World} {s:ByteArray} (e:s=⟨#[]⟩) (hs:Sc w0 w' b t 2 i i L):SgPost w0 w' b t c p i L s:=by
 unfold SgPost
 subst e
 rw [if_pos (show (⟨#[]⟩:ByteArray).size=0 from rfl)]
 exact hs
theorem pre_size {s:ByteArray} {x:List UInt8} (h:Lib.hasPrefix s.data.toList x=true):x.length≤s.size:=by
 have:=(List.isPrefixOf_iff_prefix.1 h).length_le
 rw [Lib.size_eq]
 exact this
theorem psign_any (h:Sc w0 w b t c p i L) (hi:i<t.size):Calls Tryz.prog 47 #[.pointer (some ⟨b,0,none⟩)] w fun e w'=>(∃ v,e=.returned v)∧SgPost w0 w' b t c p i L (signOf (t.extract i t.size)):=by
 have hlen:=h.len
 have HS:=hide h
 obtain ⟨v,h1,h2⟩:=h.blk
 have hc:=cells_at h1
 clear h h1 h2
 have hsl:(0:Int)≤i∧(i:Int)≤t.size:=by omega
 obtain ⟨s,hse⟩:∃ s,s=t.extract i t.size:=⟨_,rfl⟩
 rw [← hse]
 have HSe:=hide hse
 clear hse
 go_enter Tryz.func47,Tryz.ntmps47
 go_wp2_with fail
 go_quiet (fail)
 generalize nq=q
 have hS:Sc w0 (w.drewN q) b t c p i L:=HS.out.kept (below_drew (Below.refl _ _) _)
 have HS1:=hide hS
 clear hS HS hc
 generalize w.drewN q=w1 at *
 obtain ⟨r,hr⟩:∃ r,(t.extract i t.size).data.toList=t[i]::r:=⟨t.data.toList.drop (i+1),by
  rw [Lib.extract_data,List.take_of_length_le (by rw [List.length_drop,← Lib.size_eq];exact Nat.le_refl _),List.drop_eq_getElem_cons (by rw [← Lib.size_eq];exact hi)]
  rfl⟩
 have hss:(t.extract i t.size).size=t.size - i:=by rw [ByteArray.size_extract];omega
 generalize t[i]=cb at *
 have hse:=HSe.out
 clear HSe
 generalize t.extract i t.size=s1 at *
 subst hse
 have hs1:1≤s.size:=by omega
 have hone:s.extract 0 1=⟨#[cb]⟩:=by
  apply ByteArray.ext
  apply Array.toList_inj.1
  rw [Lib.extract_data,hr]
  rfl
 have HR:=hide hr
 have hcon:∀ w',Calls Tryz.prog 66 #[.string ⟨#[123,125,40,41,59,44,46,61,60,43,45,42,47,37,38,124,94,33]⟩,.string ⟨#[cb]⟩] w' fun e w''=>e=.returned (.bool (chars.contains cb))∧w''=w':=fun w'=>by
  rw [Lib.contains_iff_indexByte]
  exact Tryz.strings_Contains_one ⟨#[123,125,40,41,59,44,46,61,60,43,45,42,47,37,38,124,94,33]⟩ cb w'
 have hp0:=fun w'=>Tryz.strings_HasPrefix s ⟨#[46,46,46]⟩ w'
 have hp1:=fun w'=>Tryz.strings_HasPrefix s ⟨#[61,61]⟩ w'
 rw [show (⟨#[46,46,46]⟩:ByteArray).data.toList=[46,46,46] from rfl] at hp0
 rw [show (⟨#[61,61]⟩:ByteArray).data.toList=[61,61] from rfl] at hp1
 have HD:=hide (sign_dots s)
 have HE:=hide (sign_eqs s)
 have HO:=hide (sign_one s cb r HR.out)
 have HN:=hide (sign_none s cb r HR.out)
 have HZ0:Hid (Lib.hasPrefix s.data.toList [46,46,46]=true→3≤s.size):=fun h=>pre_size h
 have HZ1:Hid (Lib.hasPrefix s.data.toList [61,61]=true→2≤s.size):=fun h=>pre_size h
 clear hr
 have hcap:(1:Int)≤s.size:=by omega
 have hcap2:(0:Int)≤1∧(1:Int)≤s.size:=by omega
 have HSz:=hide hss
 clear hss
 generalize hB0:Lib.hasPrefix s.data.toList [46,46,46]=b0 at *
 generalize hB1:Lib.hasPrefix s.data.toList [61,61]=b1 at *
 have HB0:=hide hB0
 have HB1:=hide hB1
 clear hB0 hB1
 have x0:∀ w:World,(Instr.index 95 (.agg #[.string ⟨#[46,46,46]⟩,.string ⟨#[61,61]⟩]) (.int .i64 0)).run Tryz.prog w=.ok (.string ⟨#[46,46,46]⟩) w:=fun _=>by kernel_rfl
 have x1:∀ w:World,(Instr.index 95 (.agg #[.string ⟨#[46,46,46]⟩,.string ⟨#[61,61]⟩]) (.int .i64 1)).run Tryz.prog w=.ok (.string ⟨#[61,61]⟩) w:=fun _=>by kernel_rfl
 go_wp2_with fail
 go_loopw [15] (fun e' wr=>∃ j:Nat,j≤2∧e'=.int .i64 j∧wr=w1∧Hid (0<j→b0=false)∧Hid (1<j→b1=false)) (fun e' _=>2 - (intOf e').toNat)
 case atStart=>exact ⟨0,Nat.zero_le _,rfl,rfl,fun h=>by omega,fun h=>by omega⟩
 case round=>
  obtain ⟨j,hj,rfl,rfl,H0,H1⟩:=hrel
  have hj3:j=0∨j=1∨j=2:=by omega
  rcases hj3 with rfl|rfl|rfl
  ·cases b0 with
   | true=>
    have hf:=take_any HS1.out 4 ⟨#[46,46,46]⟩ 3 (by omega) (by have:=HZ0.out rfl;have:=HSz.out;omega) (by decide)
    have HQ:=hide (HD.out rfl)
    go_wp2_with fail
    go_at_call 65
    refine (hp0 _).mono ?_
    rintro e w2 ⟨rfl,rfl⟩
    go_wp2_with fail
    go_at_call 61
    refine hf.mono ?_
    rintro e w3 ⟨⟨v,rfl⟩,hS⟩
    have HS2:=hide hS
    clear hS
    go_wp2_with fail
    refine bodyPost_ret (results_none rfl _ _ _) rfl ?_
    exact ⟨⟨_,rfl⟩,sg_ok HQ.out (by decide) HS2.out⟩
   | false=>
    go_wp2_with fail
    go_at_call 65
    refine (hp0 _).mono ?_
    rintro e w2 ⟨rfl,rfl⟩
    go_wp2_with fail
    go_roundw
    case rel=>exact ⟨1,by omega,rfl,trivial,fun _=>trivial,fun h=>by omega⟩
    case measure=>simp [intOf]
  ·obtain rfl:b0=false:=H0.out (by omega)
   cases b1 with
   | true=>
    have hf:=take_any HS1.out 4 ⟨#[61,61]⟩ 2 (by omega) (by have:=HZ1.out rfl;have:=HSz.out;omega) (by decide)
    have HQ:=hide (HE.out rfl rfl)
    go_wp2_with fail
    go_at_call 65
    refine (hp1 _).mono ?_
    rintro e w2 ⟨rfl,rfl⟩
    go_wp2_with fail
    go_at_call 61
    refine hf.mono ?_
    rintro e w3 ⟨⟨v,rfl⟩,hS⟩
    have HS2:=hide hS
    clear hS
    go_wp2_with fail
    refine bodyPost_ret (results_none rfl _ _ _) rfl ?_
    exact ⟨⟨_,rfl⟩,sg_ok HQ.out (by decide) HS2.out⟩
   | false=>
    go_wp2_with fail
    go_at_call 65
    refine (hp1 _).mono ?_
    rintro e w2 ⟨rfl,rfl⟩
    go_wp2_with fail
    go_roundw
    case rel=>exact ⟨2,by omega,rfl,trivial,fun _=>trivial,fun _=>trivial⟩
    case measure=>simp [intOf]
  ·obtain rfl:b0=false:=H0.out (by omega)
   obtain rfl:b1=false:=H1.out (by omega)
   cases hC:chars.contains cb with
   | true=>
    have HQ:=hide (HO.out rfl rfl hC)
    rw [hC] at hcon
    have hf:=take_any HS1.out 4 ⟨#[cb]⟩ 1 (by omega) (by have:=HSz.out;omega) (by show 1≤4000;decide)
    clear hC
    go_wp2_with fail
    go_at_call 66
    refine (hcon _).mono ?_
    rintro e w2 ⟨rfl,rfl⟩
    go_wp2_with fail
    go_at_call 61
    refine hf.mono ?_
    rintro e w3 ⟨⟨v,rfl⟩,hS⟩
    have HS2:=hide hS
    clear hS
    go_wp2_with fail
    go_end0
    exact ⟨⟨_,rfl⟩,sg_ok HQ.out (by show (1:Nat)≠0;decide) HS2.out⟩
   | false=>
    have HQ:=hide (HN.out rfl rfl hC)
    rw [hC] at hcon
    have hf:=fail_any HS1.out 2
    clear hC
    go_wp2_with fail
    go_at_call 66
    refine (hcon _).mono ?_
    rintro e w2 ⟨rfl,rfl⟩
    go_wp2_with fail
    go_at_call 60
    refine hf.mono ?_
    rintro e w3 ⟨⟨v,rfl⟩,hS⟩
    have HS2:=hide hS
    clear hS
    go_wp2_with fail
    refine bodyPost_ret (results_none rfl _ _ _) rfl ?_
    exact ⟨⟨_,rfl⟩,sg_bad HQ.out HS2.out⟩
def atOf (w:World) (b:Nat):Nat:=match w.cell? ⟨b,3,none⟩ with|some (.int _ q)=>q.toNat|_=>0
theorem Sc.atOf (h:Sc w0 w b t c p i L):atOf w b=i:=by
 obtain ⟨v,h1,_⟩:=h.blk
 have:=cells_at h1 3
 unfold X.atOf
 rw [this]
 simp
theorem pass_any (h:Sc w0 w b t c p i L):Calls Tryz.prog 17 #[.pointer (some ⟨b,0,none⟩)] w fun e w'=>(∃ v,e=.returned v)∧∃ j,i≤j∧Sc w0 w' b t c p j L∧(∀ l,scanAt t i false l=scanAt t j false l)∧(j=t.size∨blank false (byteAt t j)=false):=by
 have HS:=hide h
 clear h
 go_enter Tryz.func17,Tryz.ntmps17
 go_wp2_with fail
 refine wp_scope_jumps 0 (fun a' w'=>∃ j,i≤j∧Hid (Sc w0 w' b t c p j L)∧Hid (∀ l,scanAt t i false l=scanAt t j false l)∧∃ (u2 u3 u4 u5 u6 u7 u8 u9 u10 u11 u12 u13 u14 u15 u16 u17 u18 u19 u20 u21 u22 u23 u24 u25 u26 u27 u28 u29 u30 u31 u32 u33 u34 u35 u36 u37 u38 u39 u40 u41 u42 u43 u44:Value),a'={ tmps:=#[.pointer (some ⟨b,0,none⟩),undef,u2,u3,u4,u5,u6,u7,u8,u9,u10,u11,u12,u13,u14,u15,u16,u17,u18,u19,u20,u21,u22,u23,u24,u25,u26,u27,u28,u29,u30,u31,u32,u33,u34,u35,u36,u37,u38,u39,u40,u41,u42,u43,u44],defers:=[] }) (fun _ w'=>t.size - X.atOf w' b) rfl ?_ ?_
 ·have hlen:=HS.out.len
  have hle:=HS.out.le
  obtain ⟨v,h1,h2⟩:=HS.out.blk
  have hc:=cells_at h1
  have hf:=frozen_at h1
  have hat:=HS.out.many
  clear h2 h1
  go_wp2_with fail
  go_step3
  by_cases hlt:i<t.size
  ·have hlt':(i:Int)<t.size:=by omega
   have e0:((i:Int) == t.size)=false:=by simp;omega
   have hidx:(0:Int)≤i∧(i:Int)<t.size:=by omega
   have HBy:=hide (byteAt_get t i hlt)
   have hw1:IntKind.i64.wrap ((i:Int)+1)=((i+1:Nat):Int):=by rw [IntKind.wrap_i64];omega
   by_cases c32:t[i].toNat=32
   ·have e32:((t[i].toNat:Int) == 32)=true:=by simp;omega
    have HN:=hide (pass_blank t i hlt (Or.inl (HBy.out.trans c32)))
    clear c32
    go_wp2_with fail
    go_quiet (fail)
    generalize nq=q1
    go_wp2_with fail
    go_quiet (fail)
    generalize nq=q2
    have hS2:Sc w0 ((w.drewN q1).drewN q2) b t c p i L:=HS.out.kept (below_drew (below_drew (Below.refl _ _) _) _)
    generalize (w.drewN q1).drewN q2=w2 at *
    obtain ⟨v2,k1,k2⟩:=hS2.blk
    have hc2:=cells_at k1
    have hf2:=frozen_at k1
    have HS2:=hide hS2
    clear hS2 k1 k2 hc hf
    have HN1:Hid (Sc w0 (w2.setCell ⟨b,3,none⟩ (.int .i64 ((i:Int)+1))) b t c p (i+1) L):=HS2.out.at (i+1) (by omega) (by omega)
    go_wp2_with fail
    go_step3
    refine ⟨rfl,⟨_,by omega,HN1,fun l=>HN.out l,_,_,_,_,_,_,_,_,_,_,_,_,_,_,_,_,_,_,_,_,_,_,_,_,_,_,_,_,_,_,_,_,_,_,_,_,_,_,_,_,_,_,_,rfl⟩⟩
   have e32:((t[i].toNat:Int) == 32)=false:=by simp;omega
   by_cases c10:t[i].toNat=10
   ·have e10:((t[i].toNat:Int) == 10)=true:=by simp;omega
    have HN:=hide (pass_blank t i hlt (Or.inr (HBy.out.trans c10)))
    clear c10 c32
    go_wp2_with fail
    go_quiet (fail)
    generalize nq=q1
    go_wp2_with fail
    go_quiet (fail)
    generalize nq=q2
    have hS2:Sc w0 ((w.drewN q1).drewN q2) b t c p i L:=HS.out.kept (below_drew (below_drew (Below.refl _ _) _) _)
    generalize (w.drewN q1).drewN q2=w2 at *
    obtain ⟨v2,k1,k2⟩:=hS2.blk
    have hc2:=cells_at k1
    have hf2:=frozen_at k1
    have HS2:=hide hS2
    clear hS2 k1 k2 hc hf
    have HN1:Hid (Sc w0 (w2.setCell ⟨b,3,none⟩ (.int .i64 ((i:Int)+1))) b t c p (i+1) L):=HS2.out.at (i+1) (by omega) (by omega)
    go_wp2_with fail
    go_step3
    refine ⟨rfl,⟨_,by omega,HN1,fun l=>HN.out l,_,_,_,_,_,_,_,_,_,_,_,_,_,_,_,_,_,_,_,_,_,_,_,_,_,_,_,_,_,_,_,_,_,_,_,_,_,_,_,_,_,_,_,rfl⟩⟩
   have e10:((t[i].toNat:Int) == 10)=false:=by simp;omega
   by_cases c35:t[i].toNat=35
   ·have e35:((t[i].toNat:Int) == 35)=true:=by simp;omega
    have H35:=hide (HBy.out.trans c35)
    clear c10 c32 c35
    go_wp2_with fail
    go_quiet (fail)
    generalize nq=q1
    go_wp2_with fail
    go_quiet (fail)
    generalize nq=q2
    have hS2:Sc w0 ((w.drewN q1).drewN q2) b t c p i L:=HS.out.kept (below_drew (below_drew (Below.refl _ _) _) _)
    generalize (w.drewN q1).drewN q2=w2 at *
    obtain ⟨v2,k1,k2⟩:=hS2.blk
    have hc2:=cells_at k1
    have hf2:=frozen_at k1
    have HS2:=hide hS2
    clear hS2 k1 k2 hc hf
    go_wp2_with fail
    go_at_call 40
    refine (row_note_any HS2.out _ rfl).mono ?_
    rintro e w3 ⟨j3,q1,q2,q3,q4,rfl,hb3⟩
    have HS3:=hide (HS2.out.kept hb3)
    have hj3:i<j3:=by
     by_cases e:i=j3
     ·subst e
      rcases q4 with q4|q4
      ·omega
      ·rw [H35.out] at q4;cases q4
     ·omega
    have HN:=hide (pass_note t i j3 hlt H35.out hj3 q2 (fun k k1 k2=>by have:=q3 k k1 k2;simpa using this) (q4.imp id (fun h=>by simpa using h)))
    have hex:(t.extract i j3).size=j3 - i:=by rw [ByteArray.size_extract];omega
    have hw3:IntKind.i64.wrap ((i:Int)+((t.extract i j3).size:Int))=(j3:Int):=by rw [IntKind.wrap_i64,hex];omega
    obtain ⟨v3,m1,m2⟩:=HS3.out.blk
    have hc3:=cells_at m1
    have hf3:=frozen_at m1
    have HN1:Hid (Sc w0 (w3.setCell ⟨b,3,none⟩ (.int .i64 ((i:Int)+((j3 - i:Nat):Int)))) b t c p j3 L):=by
     have h3:=HS3.out.at j3 q2 (by omega)
     rwa [show (j3:Int)=(i:Int)+((j3 - i:Nat):Int) by omega] at h3
    clear m1 m2 q3 q4 hb3 hc2 hf2 hex
    go_wp2_with fail
    go_step3
    refine ⟨rfl,⟨_,by omega,HN1,fun l=>HN.out l,_,_,_,_,_,_,_,_,_,_,_,_,_,_,_,_,_,_,_,_,_,_,_,_,_,_,_,_,_,_,_,_,_,_,_,_,_,_,_,_,_,_,_,rfl⟩⟩
   ·have e35:((t[i].toNat:Int) == 35)=false:=by simp;omega
    have HBl:Hid (blank false (byteAt t i)=false):=by show _=_;rw [HBy.out];unfold blank;simp [c32,c10,c35]
    clear c32 c10 c35
    go_wp2_with fail
    go_quiet (fail)
    generalize nq=q1
    go_wp2_with fail
    go_quiet (fail)
    generalize nq=q2
    have hS2:Sc w0 ((w.drewN q1).drewN q2) b t c p i L:=HS.out.kept (below_drew (below_drew (Below.refl _ _) _) _)
    generalize (w.drewN q1).drewN q2=w2 at *
    obtain ⟨v2,k1,k2⟩:=hS2.blk
    have hc2:=cells_at k1
    have hf2:=frozen_at k1
    have HS2:=hide hS2
    clear hS2 k1 k2 hc hf
    go_wp2_with fail
    simp only [Exit.jump]
    go_end0
    exact ⟨⟨_,rfl⟩,i,by omega,HS2.out,(fun l=>rfl),Or.inr HBl.out⟩
  ·have e0:((i:Int) == t.size)=true:=by simp;omega
   have HE:Hid (i=t.size):=by show _=_;omega
   go_wp2_with fail
   go_quiet (fail)
   generalize nq=q1
   have HS2:Hid (Sc w0 (w.drewN q1) b t c p i L):=HS.out.kept (below_drew (Below.refl _ _) _)
   go_wp2_with fail
   simp only [Exit.jump]
   refine bodyPost_ret (results_none rfl _ _ _) rfl ?_
   exact ⟨⟨_,rfl⟩,i,by omega,HS2.out,(fun l=>rfl),Or.inl HE.out⟩
 ·rintro a' w' ⟨j,hij,HS,HT,u2,u3,u4,u5,u6,u7,u8,u9,u10,u11,u12,u13,u14,u15,u16,u17,u18,u19,u20,u21,u22,u23,u24,u25,u26,u27,u28,u29,u30,u31,u32,u33,u34,u35,u36,u37,u38,u39,u40,u41,u42,u43,u44,rfl⟩
  have hlen:=HS.out.len
  have hle:=HS.out.le
  obtain ⟨v,h1,h2⟩:=HS.out.blk
  have hc:=cells_at h1
  have hf:=frozen_at h1
  have hat:=HS.out.many
  clear h2 h1
  by_cases hlt:j<t.size
  ·have hlt':(j:Int)<t.size:=by omega
   have e0:((j:Int) == t.size)=false:=by simp;omega
   have hidx:(0:Int)≤j∧(j:Int)<t.size:=by omega
   have HBy:=hide (byteAt_get t j hlt)
   have hw1:IntKind.i64.wrap ((j:Int)+1)=((j+1:Nat):Int):=by rw [IntKind.wrap_i64];omega
   by_cases c32:t[j].toNat=32
   ·have e32:((t[j].toNat:Int) == 32)=true:=by simp;omega
    have HN:=hide (pass_blank t j hlt (Or.inl (HBy.out.trans c32)))
    clear c32
    go_wp2_with fail
    go_quiet (fail)
    generalize nq=q1
    go_wp2_with fail
    go_quiet (fail)
    generalize nq=q2
    have hS2:Sc w0 ((w'.drewN q1).drewN q2) b t c p j L:=HS.out.kept (below_drew (below_drew (Below.refl _ _) _) _)
    generalize (w'.drewN q1).drewN q2=w2 at *
    obtain ⟨v2,k1,k2⟩:=hS2.blk
    have hc2:=cells_at k1
    have hf2:=frozen_at k1
    have HS2:=hide hS2
    clear hS2 k1 k2 hc hf
    have HN1:Hid (Sc w0 (w2.setCell ⟨b,3,none⟩ (.int .i64 ((j:Int)+1))) b t c p (j+1) L):=HS2.out.at (j+1) (by omega) (by omega)
    go_wp2_with fail
    go_step3
    refine ⟨rfl,⟨_,by omega,HN1,fun l=>(HT.out l).trans (HN.out l),_,_,_,_,_,_,_,_,_,_,_,_,_,_,_,_,_,_,_,_,_,_,_,_,_,_,_,_,_,_,_,_,_,_,_,_,_,_,_,_,_,_,_,rfl⟩,by show t.size - X.atOf _ b<t.size - X.atOf _ b;rw [HN1.out.atOf,HS.out.atOf];omega⟩
   have e32:((t[j].toNat:Int) == 32)=false:=by simp;omega
   by_cases c10:t[j].toNat=10
   ·have e10:((t[j].toNat:Int) == 10)=true:=by simp;omega
    have HN:=hide (pass_blank t j hlt (Or.inr (HBy.out.trans c10)))
    clear c10 c32
    go_wp2_with fail
    go_quiet (fail)
    generalize nq=q1
    go_wp2_with fail
    go_quiet (fail)
    generalize nq=q2
    have hS2:Sc w0 ((w'.drewN q1).drewN q2) b t c p j L:=HS.out.kept (below_drew (below_drew (Below.refl _ _) _) _)
    generalize (w'.drewN q1).drewN q2=w2 at *
    obtain ⟨v2,k1,k2⟩:=hS2.blk
    have hc2:=cells_at k1
    have hf2:=frozen_at k1
    have HS2:=hide hS2
    clear hS2 k1 k2 hc hf
    have HN1:Hid (Sc w0 (w2.setCell ⟨b,3,none⟩ (.int .i64 ((j:Int)+1))) b t c p (j+1) L):=HS2.out.at (j+1) (by omega) (by omega)
    go_wp2_with fail
    go_step3
    refine ⟨rfl,⟨_,by omega,HN1,fun l=>(HT.out l).trans (HN.out l),_,_,_,_,_,_,_,_,_,_,_,_,_,_,_,_,_,_,_,_,_,_,_,_,_,_,_,_,_,_,_,_,_,_,_,_,_,_,_,_,_,_,_,rfl⟩,by show t.size - X.atOf _ b<t.size - X.atOf _ b;rw [HN1.out.atOf,HS.out.atOf];omega⟩
   have e10:((t[j].toNat:Int) == 10)=false:=by simp;omega
   by_cases c35:t[j].toNat=35
   ·have e35:((t[j].toNat:Int) == 35)=true:=by simp;omega
    have H35:=hide (HBy.out.trans c35)
    clear c10 c32 c35
    go_wp2_with fail
    go_quiet (fail)
    generalize nq=q1
    go_wp2_with fail
    go_quiet (fail)
    generalize nq=q2
    have hS2:Sc w0 ((w'.drewN q1).drewN q2) b t c p j L:=HS.out.kept (below_drew (below_drew (Below.refl _ _) _) _)
    generalize (w'.drewN q1).drewN q2=w2 at *
    obtain ⟨v2,k1,k2⟩:=hS2.blk
    have hc2:=cells_at k1
    have hf2:=frozen_at k1
    have HS2:=hide hS2
    clear hS2 k1 k2 hc hf
    go_wp2_with fail
    go_at_call 40
    refine (row_note_any HS2.out _ rfl).mono ?_
    rintro e w3 ⟨j3,q1,q2,q3,q4,rfl,hb3⟩
    have HS3:=hide (HS2.out.kept hb3)
    have hj3:j<j3:=by
     by_cases e:j=j3
     ·subst e
      rcases q4 with q4|q4
      ·omega
      ·rw [H35.out] at q4;cases q4
     ·omega
    have HN:=hide (pass_note t j j3 hlt H35.out hj3 q2 (fun k k1 k2=>by have:=q3 k k1 k2;simpa using this) (q4.imp id (fun h=>by simpa using h)))
    have hex:(t.extract j j3).size=j3 - j:=by rw [ByteArray.size_extract];omega
    have hw3:IntKind.i64.wrap ((j:Int)+((t.extract j j3).size:Int))=(j3:Int):=by rw [IntKind.wrap_i64,hex];omega
    obtain ⟨v3,m1,m2⟩:=HS3.out.blk
    have hc3:=cells_at m1
    have hf3:=frozen_at m1
    have HN1:Hid (Sc w0 (w3.setCell ⟨b,3,none⟩ (.int .i64 ((j:Int)+((j3 - j:Nat):Int)))) b t c p j3 L):=by
     have h3:=HS3.out.at j3 q2 (by omega)
     rwa [show (j3:Int)=(j:Int)+((j3 - j:Nat):Int) by omega] at h3
    clear m1 m2 q3 q4 hb3 hc2 hf2 hex
    go_wp2_with fail
    go_step3
    refine ⟨rfl,⟨_,by omega,HN1,fun l=>(HT.out l).trans (HN.out l),_,_,_,_,_,_,_,_,_,_,_,_,_,_,_,_,_,_,_,_,_,_,_,_,_,_,_,_,_,_,_,_,_,_,_,_,_,_,_,_,_,_,_,rfl⟩,by show t.size - X.atOf _ b<t.size - X.atOf _ b;rw [HN1.out.atOf,HS.out.atOf];omega⟩
   ·have e35:((t[j].toNat:Int) == 35)=false:=by simp;omega
    have HBl:Hid (blank false (byteAt t j)=false):=by show _=_;rw [HBy.out];unfold blank;simp [c32,c10,c35]
    clear c32 c10 c35
    go_wp2_with fail
    go_quiet (fail)
    generalize nq=q1
    go_wp2_with fail
    go_quiet (fail)
    generalize nq=q2
    have hS2:Sc w0 ((w'.drewN q1).drewN q2) b t c p j L:=HS.out.kept (below_drew (below_drew (Below.refl _ _) _) _)
    generalize (w'.drewN q1).drewN q2=w2 at *
    obtain ⟨v2,k1,k2⟩:=hS2.blk
    have hc2:=cells_at k1
    have hf2:=frozen_at k1
    have HS2:=hide hS2
    clear hS2 k1 k2 hc hf
    go_wp2_with fail
    simp only [Exit.jump]
    go_end0
    exact ⟨⟨_,rfl⟩,j,by omega,HS2.out,HT.out,Or.inr HBl.out⟩
  ·have e0:((j:Int) == t.size)=true:=by simp;omega
   have HE:Hid (j=t.size):=by show _=_;omega
   go_wp2_with fail
   go_quiet (fail)
   generalize nq=q1
   have HS2:Hid (Sc w0 (w'.drewN q1) b t c p j L):=HS.out.kept (below_drew (Below.refl _ _) _)
   go_wp2_with fail
   simp only [Exit.jump]
   refine bodyPost_ret (results_none rfl _ _ _) rfl ?_
   exact ⟨⟨_,rfl⟩,j,by omega,HS2.out,HT.out,Or.inl HE.out⟩
def TkPost (w0 w':World) (b:Nat) (t:ByteArray) (c p:Int) (i:Nat) (L:List Tok) (k:Look):Prop:=if k.code=0 then Sc w0 w' b t c p k.next (L++[⟨k.kind,k.text,i⟩]) else Sc w0 w' b t k.code i i L
theorem byteAt_ext (t:ByteArray) (i j k:Nat) (h:i+k<j) (hj:j≤t.size):byteAt (t.extract i j) k=byteAt t (i+k):=by
 unfold byteAt
 rw [← Array.getElem?_toList,← Array.getElem?_toList,Lib.extract_data,List.getElem?_take_of_lt (by omega),List.getElem?_drop]
theorem token_any (G:Gl w0) (h:Sc w0 w b t c p i L) (hi:i<t.size):Calls Tryz.prog 18 #[.pointer (some ⟨b,0,none⟩)] w fun e w'=>(∃ v,e=.returned v)∧TkPost w0 w' b t c p i L (look t i):=by
 have hlen:=h.len
 have HS:=hide h
 obtain ⟨v,h1,h2⟩:=h.blk
 have hc:=cells_at h1
 clear h h1 h2
 have hi':(i:Int)<t.size:=by omega
 have hidx:(0:Int)≤i∧(i:Int)<t.size:=by omega
 have hb8:t[i].toNat<256:=UInt8.toNat_lt _
 have HBy:=hide (byteAt_get t i hi)
 have hle:=fun w'=>pletter_any t[i].toNat w' hb8
 have hdi:=fun w'=>pdigit_any t[i].toNat w' hb8
 obtain ⟨lk,hlk⟩:∃ lk,lk=look t i:=⟨_,rfl⟩
 rw [← hlk]
 have HLk:=hide hlk
 clear hlk
 cases hL:letB t[i].toNat with
 | true=>
  rw [hL] at hle
  have HI:Hid (insB (byteAt t i)=true):=by show _=_;rw [HBy.out];exact let_ins hL
  have HLt:Hid (letB (byteAt t i)=true):=by show _=_;rw [HBy.out];exact hL
  clear hL
  go_enter Tryz.func18,Tryz.ntmps18
  go_wp2_with fail
  go_quiet (fail)
  generalize nq=q
  have hS:Sc w0 (w.drewN q) b t c p i L:=HS.out.kept (below_drew (Below.refl _ _) _)
  have HS1:=hide hS
  clear hS hc
  generalize w.drewN q=w1 at *
  go_wp2_with fail
  go_at_call 42
  refine (hle _).mono ?_
  rintro e w2 ⟨rfl,rfl⟩
  go_wp2_with fail
  go_at_call 40
  refine (row_ins_any HS1.out insB rfl).mono ?_
  rintro e w3 ⟨j,q1,q2,q3,q4,rfl,hb3⟩
  have he:=rowEnd_eq q1 q2 q3 q4
  have hgt:=rowEnd_gt hi HI.out
  rw [he] at hgt
  have hex:(t.extract i j).size=j - i:=by rw [ByteArray.size_extract];omega
  have hwd:=word_any (HS1.out.kept hb3) (t.extract i j) (by omega) (by omega)
  have HF:Hid (∀ w':World,(if 16<(t.extract i j).size then Sc w0 w' b t 1 i i L else Sc w0 w' b t c p (i+(t.extract i j).size) (L++[⟨1,t.extract i j,i⟩]))→TkPost w0 w' b t c p i L lk):=fun w' hw=>by
   have e1:lk=⟨if 16<j - i then 1 else 0,1,t.extract i j,j⟩:=by
    rw [HLk.out]
    unfold look
    rw [HLt.out,he]
    rfl
   unfold TkPost
   rw [hex] at hw
   by_cases h16:16<j - i
   ·rw [if_pos h16] at hw
    rw [e1,if_neg (by simp [h16])]
    rw [if_pos h16]
    exact hw
   ·rw [if_neg h16] at hw
    rw [e1,if_pos (by simp [h16])]
    rw [show i+(j - i)=j by omega] at hw
    exact hw
  clear he hex q3 q4 hb3 HS1 HS
  go_wp2_with fail
  go_at_call 43
  refine hwd.mono ?_
  rintro e w4 ⟨⟨v4,rfl⟩,hw4⟩
  have HW:=hide (HF.out w4 hw4)
  clear hw4 HF
  go_wp2_with fail
  go_end0
  exact ⟨⟨_,rfl⟩,HW.out⟩
 | false=>
 rw [hL] at hle
 cases hD:digB t[i].toNat with
 | true=>
  rw [hD] at hdi
  have HI:Hid (insB (byteAt t i)=true):=by show _=_;rw [HBy.out];exact dig_ins hD
  have HLt:Hid (letB (byteAt t i)=false∧digB (byteAt t i)=true):=by show _∧_;rw [HBy.out];exact ⟨hL,hD⟩
  clear hL hD
  go_enter Tryz.func18,Tryz.ntmps18
  go_wp2_with fail
  go_quiet (fail)
  generalize nq=q
  have hS:Sc w0 (w.drewN q) b t c p i L:=HS.out.kept (below_drew (Below.refl _ _) _)
  have HS1:=hide hS
  clear hS hc
  generalize w.drewN q=w1 at *
  go_wp2_with fail
  go_at_call 42
  refine (hle _).mono ?_
  rintro e w2 ⟨rfl,rfl⟩
  go_wp2_with fail
  go_at_call 45
  refine (hdi _).mono ?_
  rintro e w2 ⟨rfl,rfl⟩
  go_wp2_with fail
  go_at_call 40
  refine (row_ins_any HS1.out insB rfl).mono ?_
  rintro e w3 ⟨j,q1,q2,q3,q4,rfl,hb3⟩
  have he:=rowEnd_eq q1 q2 q3 q4
  have hgt:=rowEnd_gt hi HI.out
  rw [he] at hgt
  have hex:(t.extract i j).size=j - i:=by rw [ByteArray.size_extract];omega
  have hwd:=number_any G (HS1.out.kept hb3) (t.extract i j) (by omega) (by omega) (by rw [byteAt_ext t i j 0 (by omega) q2];exact HLt.out.2)
  have HF:Hid (∀ w':World,NumPost w0 w' b t c p i L (t.extract i j)→TkPost w0 w' b t c p i L lk):=fun w' hw=>by
   have e1:lk=⟨rowCode (t.extract i j),if isL (t.extract i j) then 3 else 2,rowText (t.extract i j),j⟩:=by
    rw [HLk.out]
    unfold look
    rw [HLt.out.1,HLt.out.2,he]
    rfl
   unfold NumPost at hw
   unfold TkPost
   rw [hex,show i+(j - i)=j by omega] at hw
   rw [e1]
   exact hw
  clear he hex q3 q4 hb3 HS1 HS
  go_wp2_with fail
  go_at_call 46
  refine hwd.mono ?_
  rintro e w4 ⟨⟨v4,rfl⟩,hw4⟩
  have HW:=hide (HF.out w4 hw4)
  clear hw4 HF
  go_wp2_with fail
  go_end0
  exact ⟨⟨_,rfl⟩,HW.out⟩
 | false=>
  rw [hD] at hdi
  have HLt:Hid (letB (byteAt t i)=false∧digB (byteAt t i)=false):=by show _∧_;rw [HBy.out];exact ⟨hL,hD⟩
  clear hL hD
  go_enter Tryz.func18,Tryz.ntmps18
  go_wp2_with fail
  go_quiet (fail)
  generalize nq=q
  have hS:Sc w0 (w.drewN q) b t c p i L:=HS.out.kept (below_drew (Below.refl _ _) _)
  have HS1:=hide hS
  clear hS hc
  generalize w.drewN q=w1 at *
  have hwd:=psign_any HS1.out hi
  have HF:Hid (∀ w':World,SgPost w0 w' b t c p i L (signOf (t.extract i t.size))→TkPost w0 w' b t c p i L lk):=fun w' hw=>by
   have e1:lk=⟨if (signOf (t.extract i t.size)).size=0 then 2 else 0,4,signOf (t.extract i t.size),i+(signOf (t.extract i t.size)).size⟩:=by
    rw [HLk.out]
    unfold look
    rw [HLt.out.1,HLt.out.2]
    rfl
   unfold SgPost at hw
   unfold TkPost
   rw [e1]
   by_cases h0:(signOf (t.extract i t.size)).size=0
   ·rw [if_pos h0] at hw
    rw [if_neg (by simp [h0]),if_pos h0]
    exact hw
   ·rw [if_neg h0] at hw
    rw [if_pos (by simp [h0])]
    exact hw
  go_wp2_with fail
  go_at_call 42
  refine (hle _).mono ?_
  rintro e w2 ⟨rfl,rfl⟩
  go_wp2_with fail
  go_at_call 45
  refine (hdi _).mono ?_
  rintro e w2 ⟨rfl,rfl⟩
  go_wp2_with fail
  go_at_call 47
  refine hwd.mono ?_
  rintro e w4 ⟨⟨v4,rfl⟩,hw4⟩
  have HW:=hide (HF.out w4 hw4)
  clear hw4 HF
  go_wp2_with fail
  go_end0
  exact ⟨⟨_,rfl⟩,HW.out⟩
end Go.Proofs.YthcfianhdkolhaaGreatDoor.X
namespace Go.Proofs.YthcfianhdkolhaaGreatDoor.X
open Go.RowKit
set_option maxRecDepth 100000
set_option maxHeartbeats 2000000
set_option linter.unusedVariables false
set_option linter.unusedSimpArgs false
theorem own_set25 {w:World} {ob:Nat} {v:Value} {n:Nat} {xs:List Value} {b o:Nat} {x:Value} {cur:Array Value} (h:w.ownsRow ob 44 3 v n xs) (hb:w.heap[b]?=some (.cells cur 27 (0,0))):(w.setCell ⟨b,o,none⟩ x).ownsRow ob 44 3 v n xs:=by
 refine ⟨h.1,?_⟩
 rcases h.2 with h2|⟨g,cap,cu,hv,hg,hh,r⟩
 ·exact Or.inl h2
 ·refine Or.inr ⟨g,cap,cu,hv,hg,(Below.heap_setCell _ _ _ g (fun e=>?_)).trans hh,r⟩
  have e':g=b:=e
  rw [e',hb] at hh
  simp at hh
theorem end_cells {w2 w:World} {q:Nat} {a c:Value} (hq:w2.heap[q]?=some (.cells #[.int .i64 0,.int .i64 0] 27 (0,0))) (hw:w.heap.size≤q) (hB:Below w.heap.size w w2):
  (∀ o,((w2.setCell ⟨q,0,none⟩ a).setCell ⟨q,1,none⟩ c).drew.cell? ⟨q,o,none⟩=(#[a,c])[o]?)∧q<((w2.setCell ⟨q,0,none⟩ a).setCell ⟨q,1,none⟩ c).drew.heap.size∧Below w.heap.size w ((w2.setCell ⟨q,0,none⟩ a).setCell ⟨q,1,none⟩ c).drew∧∀ ob v n xs,w2.ownsRow ob 44 3 v n xs→((w2.setCell ⟨q,0,none⟩ a).setCell ⟨q,1,none⟩ c).drew.ownsRow ob 44 3 v n xs:=by
 have k1:(w2.setCell ⟨q,0,none⟩ a).heap[q]?=some (.cells #[a,.int .i64 0] 27 (0,0)):=(heap_setCell_same w2 q 0 _ 27 _ hq).trans rfl
 have k2:((w2.setCell ⟨q,0,none⟩ a).setCell ⟨q,1,none⟩ c).heap[q]?=some (.cells #[a,c] 27 (0,0)):=(heap_setCell_same _ q 1 _ 27 _ k1).trans rfl
 have k3:((w2.setCell ⟨q,0,none⟩ a).setCell ⟨q,1,none⟩ c).drew.heap[q]?=some (.cells #[a,c] 27 (0,0)):=k2
 exact ⟨cells_at k3,(Array.getElem?_eq_some_iff.1 k3).1,((hB.setCell hw _).setCell hw _).drew,fun ob v n xs h=>own_set25 (own_set25 h hq) k1⟩
theorem pscan_any (t:ByteArray) (w:World) (G:Gl w) (hm:t.size≤9223372036854775807):Calls Tryz.prog 10 #[.string t] w fun e w'=>∃ l,e=.returned (.tuple #[l,.agg #[.int .i64 (scan t).2.1,.int .i64 (scan t).2.2]])∧w'.ownsRow w.heap.size 44 3 l (scan t).1.length (toks (scan t).1)∧Below w.heap.size w w':=by
 obtain ⟨R,hR⟩:∃ R,R=scan t:=⟨_,rfl⟩
 rw [← hR]
 by_cases h4:4000<t.size
 ·unfold scan at hR
  have h4':(4000:Int)<t.size:=by omega
  rw [if_pos h4] at hR
  subst hR
  go_enter Tryz.func10,Tryz.ntmps10
  go_wp2_with fail
  refine bodyPost_ret (v:=.tuple #[.slice none 0 0,.agg #[.int .i64 1,.int .i64 0]]) (by simp [results,Tryz.results10,go_sem]) rfl ?_
  exact ⟨_,rfl,⟨rfl,Or.inl ⟨rfl,rfl⟩⟩,(Below.refl _ _).alloc (Nat.le_refl _) _⟩
 have h4':¬ (4000:Int)<t.size:=by omega
 rw [scan_at t (by omega)] at hR
 have HR:=hide hR
 clear hR
 go_enter Tryz.func10,Tryz.ntmps10
 go_wp2_with fail
 have hB0:Below w.heap.size w (w.alloc (.cells #[.int .i64 0,.int .i64 0] 27)):=(Below.refl _ _).alloc (Nat.le_refl _) _
 have hq0:(w.alloc (.cells #[.int .i64 0,.int .i64 0] 27)).heap[w.heap.size]?=some (.cells #[.int .i64 0,.int .i64 0] 27 (0,0)):=heap_alloc_new w _
 have hz0:(w.alloc (.cells #[.int .i64 0,.int .i64 0] 27)).heap.size=w.heap.size+1:=by simp
 have HG:=hide (G.below hB0)
 clear G
 generalize w.alloc (.cells #[.int .i64 0,.int .i64 0] 27)=W at *
 have HW:Hid (∀ w',Below W.heap.size W w'→Below w.heap.size w w'):=fun w' hw=>hB0.trans (hw.mono (by omega))
 have HQ:Hid (∀ w',Below W.heap.size W w'→(∀ o,w'.cell? ⟨w.heap.size,o,none⟩=(#[Value.int .i64 0,.int .i64 0])[o]?)∧(∀ o,w'.frozen? ⟨w.heap.size,o,none⟩=false)∧w.heap.size<w'.heap.size∧Hid (w'.heap[w.heap.size]?=some (.cells #[.int .i64 0,.int .i64 0] 27 (0,0)))):=fun w' hw=>by
  have e:=(hw.block w.heap.size (by omega)).trans hq0
  exact ⟨fun o=>by simp [World.cell?,e],fun o=>by simp only [World.frozen?,e];rfl,by have:=hw.size;omega,e⟩
 have HZ:=hide hz0
 have hS0:Sc W (W.alloc (.cells #[.int .i64 0,.int .i64 0,.string t,.int .i64 0,.slice none 0 0] 46)) (w.heap.size+1) t 0 0 0 []:=⟨by omega,Nat.zero_le _,Nat.le_refl _,by omega,⟨.slice none 0 0,by rw [← hz0];exact heap_alloc_new W _,⟨rfl,Or.inl ⟨rfl,rfl⟩⟩⟩,(Below.refl _ _).alloc (Nat.le_refl _) _⟩
 have hps:=pass_any hS0
 clear hq0 hB0 hz0 hS0
 generalize hbb:w.heap.size+1=b at *
 have HBb:=hide hbb
 clear hbb
 go_at_call 17
 refine hps.mono ?_
 rintro e w1 ⟨⟨v1,rfl⟩,j1,-,hS1,hT1,hE1⟩
 have HS1:=hide hS1
 have HR1:Hid (R=scanAt t j1 false []):=HR.out.trans (hT1 [])
 have HE1:=hide hE1
 clear hS1 hT1 hE1 hps HR
 go_wp2_with fail
 go_loopw [12] (fun _ wr=>∃ (i:Nat) (L:List Tok),Hid (Sc W wr b t 0 0 i L)∧Hid (R=scanAt t i false L)∧Hid (i=t.size∨blank false (byteAt t i)=false)) (fun _ wr=>t.size - X.atOf wr b)
 case atStart=>exact ⟨j1,[],HS1,HR1,HE1⟩
 case round=>
  obtain ⟨i,L,HS,HRi,HE⟩:=hrel
  clear HS1 HR1 HE1
  have hle:=HS.out.le
  obtain ⟨v,k1,k2⟩:=HS.out.blk
  have hc:=cells_at k1
  have HO:=hide k2
  clear k1 k2
  by_cases hlt:i<t.size
  ·have hlt':(i:Int)<t.size:=by omega
   have htk:=token_any HG.out HS.out hlt
   have HBl:Hid (blank false (byteAt t i)=false):=HE.out.resolve_left (by omega)
   have HTk:=hide (take_tok t i hlt HBl.out L)
   have hnx:=fun h=>look_next (t:=t) (i:=i) hlt h
   have HNx:=hide hnx
   clear hnx
   go_wp2_with fail
   go_at_call 18
   refine htk.mono ?_
   rintro e w2 ⟨⟨v2,rfl⟩,hp2⟩
   unfold TkPost at hp2
   by_cases hcode:(look t i).code=0
   ·rw [if_pos hcode] at hp2
    have HR2:Hid (R=scanAt t (look t i).next false (L++[⟨(look t i).kind,(look t i).text,i⟩])):=by show _=_;rw [HRi.out,HTk.out,if_pos hcode]
    have hnext:=HNx.out hcode
    have hps:=pass_any hp2
    obtain ⟨v3,m1,m2⟩:=hp2.blk
    have hc2:=cells_at m1
    clear m1 m2 hc htk hp2 hcode HNx HTk
    go_wp2_with fail
    go_at_call 17
    refine hps.mono ?_
    rintro e w3 ⟨⟨v4,rfl⟩,j3,hj3,hS3,hT3,hE3⟩
    have HS3:=hide hS3
    have HR3:Hid (R=scanAt t j3 false (L++[⟨(look t i).kind,(look t i).text,i⟩])):=HR2.out.trans (hT3 _)
    have HE3:=hide hE3
    have hj3i:i<j3:=by omega
    clear hS3 hT3 hE3 hps hc2
    go_wp2_with fail
    go_roundw
    case rel=>exact ⟨j3,_,HS3,HR3,HE3⟩
    case measure=>rw [HS3.out.atOf,HS.out.atOf];have:=HS3.out.le;omega
   ·rw [if_neg hcode] at hp2
    have hR2:R=([],(look t i).code,i):=by rw [HRi.out,HTk.out,if_neg hcode]
    obtain ⟨qx,qf,qz,QH⟩:=HQ.out w2 hp2.below
    have HB2:=hide (HW.out _ hp2.below)
    obtain ⟨v3,m1,m2⟩:=hp2.blk
    have hc2:=cells_at m1
    have hne:((look t i).code != 0)=true:=by simpa using hcode
    have hbq:w.heap.size≠b:=by have:=HBb.out;omega
    clear m1 m2 hc htk hp2 hcode HNx HTk
    generalize (look t i).code=code at *
    subst hR2
    go_wp2_with fail
    go_region
    all_goals go_wp2_with fail
    obtain ⟨y1,y2,y3,y4⟩:=end_cells (a:=.int .i64 code) (c:=.int .i64 i) QH.out (Nat.le_refl _) HB2.out
    generalize ((w2.setCell ⟨w.heap.size,0,none⟩ (.int .i64 code)).setCell ⟨w.heap.size,1,none⟩ (.int .i64 i)).drew=X at *
    refine bodyPost_ret (v:=.tuple #[.slice none 0 0,.agg #[.int .i64 code,.int .i64 i]]) (by simp [results,Tryz.results10,go_sem,y1,y2]) rfl ?_
    exact ⟨_,rfl,⟨rfl,Or.inl ⟨rfl,rfl⟩⟩,y3⟩
  ·have hlt':¬ (i:Int)<t.size:=by omega
   have hR2:R=(L,0,0):=by rw [HRi.out,scanAt_end _ _ _ _ (by omega)]
   obtain ⟨qx,qf,qz,QH⟩:=HQ.out wr HS.out.below
   have HB2:=hide (HW.out _ HS.out.below)
   have hbq:w.heap.size≠b:=by have:=HBb.out;omega
   subst hR2
   go_wp2_with fail
   go_region
   all_goals go_wp2_with fail
   obtain ⟨y1,y2,y3,y4⟩:=end_cells (a:=.int .i64 0) (c:=.int .i64 0) QH.out (Nat.le_refl _) HB2.out
   have y5:=y4 _ _ _ _ HO.out
   clear y4
   generalize ((wr.setCell ⟨w.heap.size,0,none⟩ (.int .i64 0)).setCell ⟨w.heap.size,1,none⟩ (.int .i64 0)).drew=X at *
   refine bodyPost_ret (v:=.tuple #[v,.agg #[.int .i64 0,.int .i64 0]]) (by simp [results,Tryz.results10,go_sem,y1,y2]) rfl ?_
   exact ⟨_,rfl,own_base y5 (by have h1:=HZ.out;have h2:=HBb.out;omega),y3⟩
end Go.Proofs.YthcfianhdkolhaaGreatDoor.X
