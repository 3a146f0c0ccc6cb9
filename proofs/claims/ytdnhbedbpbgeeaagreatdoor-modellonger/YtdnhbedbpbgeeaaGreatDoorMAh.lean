/- 7 -/
import Derived.Test.YtdnhbedbpbgeeaaGreatDoorMAg
import Derived.Maps.OwnSet
set_option maxRecDepth 100000
set_option maxHeartbeats 2000000
set_option linter.all false
namespace Go.Proofs.YtdnhbedbpbgeeaaGreatDoor.T
open Go.RowKit Go.Proofs.Tryz
theorem ptext_any:∀(T:Ty)(d:Nat),d≤4→mayN d T=true→∀(v:Value) (w:World),TyV w T v→Calls prog 38 #[v] w λ e w'=>e=.returned (.string (strOf (textT T)))∧Below w.heap.size w w':=by
 intro T;induction T with
 | leaf=>intro d _ _ v w hv;exact (TyV_leaf hv).elim
 | mk kind name nn names pn parts many ih=>
  intro d hd hm v w hv;cases d with
  | zero=>simp [mayN] at hm
  | succ d=>
   have F:=may_facts hm;have HI:Hid (∀i,i<pn→∀v w,TyV w (parts i) v→Calls prog 38 #[v] w λ e w'=>e=.returned (.string (strOf (textT (parts i))))∧Below w.heap.size w w'):=λ i hi v w hv=>ih i d (by omega) (F.2.2.1 i hi) v w hv;clear ih;obtain⟨na,nc,pa,pc,rfl,hS,q1,q2,q3,q4,q5,q6,q7,HP⟩:=hv.part;have hB0:Below w.heap.size w (w.alloc (.cells #[.int .i64 kind,.string name,.slice na nn nc,.slice pa pn pc,.bool many] 83)):=(Below.refl _ _).alloc (Nat.le_refl _) _;have HT:=ah hv;have HM:=ah hm;clear hv hS hm HP;rcases F.2.2.2 with⟨rfl,-⟩|⟨rfl,-⟩|⟨rfl,-⟩|⟨rfl,-⟩
   ·clear F;have hc:=ptext_struct d (by omega) HI HM _ _ (HT.below hB0);have HB0:=ah hB0;generalize textT (.mk 3 name nn names pn parts many)=tx at *;clear hB0;go_enter func38,ntmps38;go_wp2_with fail;go_at_call 55;refine hc.mono ?_;rintro e w1 ⟨rfl,hb1⟩;have HB1:Hid (Below w.heap.size w w1):=HB0.trans (hb1.mono HB0.size);clear hb1;go_wp2;go_ret
    exact⟨rfl,HB1⟩
   ·clear F;have hc:=ptext_fn d (by omega) HI HM _ _ (HT.below hB0);have HB0:=ah hB0;generalize textT (.mk 4 name nn names pn parts many)=tx at *;clear hB0;go_enter func38,ntmps38;go_wp2_with fail;go_at_call 56;refine hc.mono ?_;rintro e w1 ⟨rfl,hb1⟩;have HB1:Hid (Below w.heap.size w w1):=HB0.trans (hb1.mono HB0.size);clear hb1;go_wp2;go_ret
    exact⟨rfl,HB1⟩
   ·clear F;rw[textT_mk,if_pos rfl];go_enter func38,ntmps38;go_wp2;go_ret
    exact⟨rfl,hB0⟩
   clear F;rw[textT_mk,if_neg (by decide),if_pos rfl];go_enter func38,ntmps38;go_wp2;go_ret
   exact⟨rfl,hB0⟩
theorem pWords_f (T:Ty) (v:Value) (w:World) (hm:mayN 4 T=false) (hv:TyV w T v):Calls prog 76 #[v] w λ e w'=>e=.returned (.int .i64 0)∧Below w.heap.size w w':=by
 rcases T with _|⟨kind,name,nn,names,pn,parts,many⟩
 ·exact (TyV_leaf hv).elim
 obtain⟨na,nc,pa,pc,rfl,hS,q1,q2,q3,q4,q5,q6,q7,HP⟩:=hv.part;have hB0:Below w.heap.size w (w.alloc (.cells #[.int .i64 kind,.string name,.slice na nn nc,.slice pa pn pc,.bool many] 83)):=(Below.refl _ _).alloc (Nat.le_refl _) _;have hx0:∀o,(w.alloc (.cells #[.int .i64 kind,.string name,.slice na nn nc,.slice pa pn pc,.bool many] 83)).cell? ⟨w.heap.size,o,none⟩=(#[Value.int .i64 kind,.string name,.slice na nn nc,.slice pa pn pc,.bool many])[o]?:=λ o=>World.cell?_alloc_at _ _ _ _ rfl;have hz0:(w.alloc (.cells #[.int .i64 kind,.string name,.slice na nn nc,.slice pa pn pc,.bool many] 83)).heap.size=w.heap.size+1:=by simp
 obtain⟨W,hW⟩:∃W,w.alloc (.cells #[.int .i64 kind,.string name,.slice na nn nc,.slice pa pn pc,.bool many] 83)=W:=⟨_,rfl⟩
 have HWE:=ah hW;rw[hW] at hB0 hx0 hz0;clear hW;have HW:Hid (∀w',Below W.heap.size W w'→Below w.heap.size w w'):=λ w' hw=>hB0.trans (hw.mono (by omega));have HXc:Hid (∀w',Below W.heap.size W w'→∀o,w'.cell? ⟨w.heap.size,o,none⟩=(#[Value.int .i64 kind,.string name,.slice na nn nc,.slice pa pn pc,.bool many])[o]?):=λ w' hw o=>(hw.cell (p:=⟨w.heap.size,o,none⟩) (by show w.heap.size<_;omega)).trans (hx0 o);have HT:=ah hv;have cmay:=pMay_any _ _ W (hv.below hB0);rw[hm] at cmay;clear hv hS hx0 hz0 hB0 HP;go_enter func76,ntmps76;go_wp2_with fail;simp only[HWE.out];go_at_call 37;refine cmay.mono ?_;rintro e w1 ⟨rfl,hb1⟩;have HB1:Hid (Below W.heap.size W w1):=hb1;have hx1:=HXc w1 HB1;clear hb1;go_wp2;go_ret
 exact⟨rfl,HW _ HB1⟩
theorem pWords_t (T:Ty) (v:Value) (w:World) (hm:mayN 4 T=true) (hv:TyV w T v):Calls prog 76 #[v] w λ e w'=>e=.returned (.int .i64 (sizeT T))∧Below w.heap.size w w':=by
 rcases T with _|⟨kind,name,nn,names,pn,parts,many⟩
 ·exact (TyV_leaf hv).elim
 obtain⟨na,nc,pa,pc,rfl,hS,q1,q2,q3,q4,q5,q6,q7,HP⟩:=hv.part;have hB0:Below w.heap.size w (w.alloc (.cells #[.int .i64 kind,.string name,.slice na nn nc,.slice pa pn pc,.bool many] 83)):=(Below.refl _ _).alloc (Nat.le_refl _) _;have hx0:∀o,(w.alloc (.cells #[.int .i64 kind,.string name,.slice na nn nc,.slice pa pn pc,.bool many] 83)).cell? ⟨w.heap.size,o,none⟩=(#[Value.int .i64 kind,.string name,.slice na nn nc,.slice pa pn pc,.bool many])[o]?:=λ o=>World.cell?_alloc_at _ _ _ _ rfl;have hz0:(w.alloc (.cells #[.int .i64 kind,.string name,.slice na nn nc,.slice pa pn pc,.bool many] 83)).heap.size=w.heap.size+1:=by simp
 obtain⟨W,hW⟩:∃W,w.alloc (.cells #[.int .i64 kind,.string name,.slice na nn nc,.slice pa pn pc,.bool many] 83)=W:=⟨_,rfl⟩
 have HWE:=ah hW;rw[hW] at hB0 hx0 hz0;clear hW;have HW:Hid (∀w',Below W.heap.size W w'→Below w.heap.size w w'):=λ w' hw=>hB0.trans (hw.mono (by omega));have HXc:Hid (∀w',Below W.heap.size W w'→∀o,w'.cell? ⟨w.heap.size,o,none⟩=(#[Value.int .i64 kind,.string name,.slice na nn nc,.slice pa pn pc,.bool many])[o]?):=λ w' hw o=>(hw.cell (p:=⟨w.heap.size,o,none⟩) (by show w.heap.size<_;omega)).trans (hx0 o);have HT:=ah hv;have cmay:=pMay_any _ _ W (hv.below hB0);rw[hm] at cmay;clear hv hS hx0 hz0 hB0 HP;have hc:=λ w' (hw:Below W.heap.size W w')=>words_any _ (sizeT_le hm).1 _ w' (HT.below (HW w' hw));have HM:=ah hm;clear hm;go_enter func76,ntmps76;go_wp2_with fail;simp only[HWE.out];go_at_call 37;refine cmay.mono ?_;rintro e w1 ⟨rfl,hb1⟩;have HB1:Hid (Below W.heap.size W w1):=hb1;have hx1:=HXc w1 HB1;clear hb1;go_wp2_with fail;go_at_call 84;refine (hc _ HB1).mono ?_;rintro e w2 ⟨rfl,hb2⟩;have HB2:Hid (Below W.heap.size W w2):=HB1.trans (hb2.mono HB1.size);clear hb2;go_wp2;go_ret
 exact⟨rfl,HW _ HB2⟩
theorem pText_f (T:Ty) (v:Value) (w:World) (hm:mayN 4 T=false) (hv:TyV w T v):Calls prog 28 #[v] w λ e w'=>e=.returned (.string ⟨#[]⟩)∧Below w.heap.size w w':=by
 rcases T with _|⟨kind,name,nn,names,pn,parts,many⟩
 ·exact (TyV_leaf hv).elim
 obtain⟨na,nc,pa,pc,rfl,hS,q1,q2,q3,q4,q5,q6,q7,HP⟩:=hv.part;have hB0:Below w.heap.size w (w.alloc (.cells #[.int .i64 kind,.string name,.slice na nn nc,.slice pa pn pc,.bool many] 83)):=(Below.refl _ _).alloc (Nat.le_refl _) _;have hx0:∀o,(w.alloc (.cells #[.int .i64 kind,.string name,.slice na nn nc,.slice pa pn pc,.bool many] 83)).cell? ⟨w.heap.size,o,none⟩=(#[Value.int .i64 kind,.string name,.slice na nn nc,.slice pa pn pc,.bool many])[o]?:=λ o=>World.cell?_alloc_at _ _ _ _ rfl;have hz0:(w.alloc (.cells #[.int .i64 kind,.string name,.slice na nn nc,.slice pa pn pc,.bool many] 83)).heap.size=w.heap.size+1:=by simp
 obtain⟨W,hW⟩:∃W,w.alloc (.cells #[.int .i64 kind,.string name,.slice na nn nc,.slice pa pn pc,.bool many] 83)=W:=⟨_,rfl⟩
 have HWE:=ah hW;rw[hW] at hB0 hx0 hz0;clear hW;have HW:Hid (∀w',Below W.heap.size W w'→Below w.heap.size w w'):=λ w' hw=>hB0.trans (hw.mono (by omega));have HXc:Hid (∀w',Below W.heap.size W w'→∀o,w'.cell? ⟨w.heap.size,o,none⟩=(#[Value.int .i64 kind,.string name,.slice na nn nc,.slice pa pn pc,.bool many])[o]?):=λ w' hw o=>(hw.cell (p:=⟨w.heap.size,o,none⟩) (by show w.heap.size<_;omega)).trans (hx0 o);have HT:=ah hv;have cmay:=pMay_any _ _ W (hv.below hB0);rw[hm] at cmay;clear hv hS hx0 hz0 hB0 HP;go_enter func28,ntmps28;go_wp2_with fail;simp only[HWE.out];go_at_call 37;refine cmay.mono ?_;rintro e w1 ⟨rfl,hb1⟩;have HB1:Hid (Below W.heap.size W w1):=hb1;have hx1:=HXc w1 HB1;clear hb1;go_wp2;go_ret
 exact⟨rfl,HW _ HB1⟩
theorem pText_t (T:Ty) (v:Value) (w:World) (hm:mayN 4 T=true) (hv:TyV w T v):Calls prog 28 #[v] w λ e w'=>e=.returned (.string (strOf (textT T)))∧Below w.heap.size w w':=by
 rcases T with _|⟨kind,name,nn,names,pn,parts,many⟩
 ·exact (TyV_leaf hv).elim
 obtain⟨na,nc,pa,pc,rfl,hS,q1,q2,q3,q4,q5,q6,q7,HP⟩:=hv.part;have hB0:Below w.heap.size w (w.alloc (.cells #[.int .i64 kind,.string name,.slice na nn nc,.slice pa pn pc,.bool many] 83)):=(Below.refl _ _).alloc (Nat.le_refl _) _;have hx0:∀o,(w.alloc (.cells #[.int .i64 kind,.string name,.slice na nn nc,.slice pa pn pc,.bool many] 83)).cell? ⟨w.heap.size,o,none⟩=(#[Value.int .i64 kind,.string name,.slice na nn nc,.slice pa pn pc,.bool many])[o]?:=λ o=>World.cell?_alloc_at _ _ _ _ rfl;have hz0:(w.alloc (.cells #[.int .i64 kind,.string name,.slice na nn nc,.slice pa pn pc,.bool many] 83)).heap.size=w.heap.size+1:=by simp
 obtain⟨W,hW⟩:∃W,w.alloc (.cells #[.int .i64 kind,.string name,.slice na nn nc,.slice pa pn pc,.bool many] 83)=W:=⟨_,rfl⟩
 have HWE:=ah hW;rw[hW] at hB0 hx0 hz0;clear hW;have HW:Hid (∀w',Below W.heap.size W w'→Below w.heap.size w w'):=λ w' hw=>hB0.trans (hw.mono (by omega));have HXc:Hid (∀w',Below W.heap.size W w'→∀o,w'.cell? ⟨w.heap.size,o,none⟩=(#[Value.int .i64 kind,.string name,.slice na nn nc,.slice pa pn pc,.bool many])[o]?):=λ w' hw o=>(hw.cell (p:=⟨w.heap.size,o,none⟩) (by show w.heap.size<_;omega)).trans (hx0 o);have HT:=ah hv;have cmay:=pMay_any _ _ W (hv.below hB0);rw[hm] at cmay;clear hv hS hx0 hz0 hB0 HP;have hc:=λ w' (hw:Below W.heap.size W w')=>ptext_any _ 4 (by omega) hm _ w' (HT.below (HW w' hw));have HM:=ah hm;clear hm;go_enter func28,ntmps28;go_wp2_with fail;simp only[HWE.out];go_at_call 37;refine cmay.mono ?_;rintro e w1 ⟨rfl,hb1⟩;have HB1:Hid (Below W.heap.size W w1):=hb1;have hx1:=HXc w1 HB1;clear hb1;go_wp2_with fail;go_at_call 38;refine (hc _ HB1).mono ?_;rintro e w2 ⟨rfl,hb2⟩;have HB2:Hid (Below W.heap.size W w2):=HB1.trans (hb2.mono HB1.size);clear hb2;go_wp2;go_ret
 exact⟨rfl,HW _ HB2⟩
theorem TyV.form {w : World} {T : Ty} {v : Value} (h:TyV w T v):∃kind name na nn nc pa pn pc many,v=.agg #[.int .i64 kind,.string name,.slice na nn nc,.slice pa pn pc,.bool many]:=by
 rcases T with _|⟨kind,name,nn,names,pn,parts,many⟩
 ·exact (TyV_leaf h).elim
 obtain⟨na,nc,pa,pc,rfl,_⟩:=h.part;exact⟨_,_,_,_,_,_,_,_,_,rfl⟩
section
variable (a b:Ty) (va vb:Value) (w:World) (ha:TyV w a va) (hb:TyV w b vb)
include ha hb
theorem same_a (hm:mayN 4 a=false):Calls prog 74 #[va,vb] w λ e w'=>e=.returned (.bool false)∧Below w.heap.size w w':=by
 have HA:=ah ha;have HBt:=ah hb;obtain⟨k1,n1,na1,nn1,nc1,pa1,pn1,pc1,m1,rfl⟩:=ha.form;obtain⟨k2,n2,na2,nn2,nc2,pa2,pn2,pc2,m2,rfl⟩:=hb.form;clear ha hb;have cma:=λ w' (hv:TyV w' a (.agg #[Value.int .i64 k1,.string n1,.slice na1 nn1 nc1,.slice pa1 pn1 pc1,.bool m1]))=>pMay_any a _ w' hv;have cmb:=λ w' (hv:TyV w' b (.agg #[Value.int .i64 k2,.string n2,.slice na2 nn2 nc2,.slice pa2 pn2 pc2,.bool m2]))=>pMay_any b _ w' hv;rw[hm] at cma;go_enter func74,ntmps74;go_wp2_with fail;have hB0:Below w.heap.size w ((w.alloc (.cells #[Value.int .i64 k1,.string n1,.slice na1 nn1 nc1,.slice pa1 pn1 pc1,.bool m1] 83)).alloc (.cells #[Value.int .i64 k2,.string n2,.slice na2 nn2 nc2,.slice pa2 pn2 pc2,.bool m2] 83)):=((Below.refl _ _).alloc (Nat.le_refl _) _).alloc (by simp) _;have hx00:∀o,((w.alloc (.cells #[Value.int .i64 k1,.string n1,.slice na1 nn1 nc1,.slice pa1 pn1 pc1,.bool m1] 83)).alloc (.cells #[Value.int .i64 k2,.string n2,.slice na2 nn2 nc2,.slice pa2 pn2 pc2,.bool m2] 83)).cell? ⟨w.heap.size,o,none⟩=(#[Value.int .i64 k1,.string n1,.slice na1 nn1 nc1,.slice pa1 pn1 pc1,.bool m1])[o]?:=λ o=>(World.cell?_alloc_past _ _ _ (by simp)).trans (World.cell?_alloc_at _ _ _ _ rfl);have hy00:∀o,((w.alloc (.cells #[Value.int .i64 k1,.string n1,.slice na1 nn1 nc1,.slice pa1 pn1 pc1,.bool m1] 83)).alloc (.cells #[Value.int .i64 k2,.string n2,.slice na2 nn2 nc2,.slice pa2 pn2 pc2,.bool m2] 83)).cell? ⟨w.heap.size+1,o,none⟩=(#[Value.int .i64 k2,.string n2,.slice na2 nn2 nc2,.slice pa2 pn2 pc2,.bool m2])[o]?:=λ o=>World.cell?_alloc_at _ _ _ _ (by simp);have hz0:((w.alloc (.cells #[Value.int .i64 k1,.string n1,.slice na1 nn1 nc1,.slice pa1 pn1 pc1,.bool m1] 83)).alloc (.cells #[Value.int .i64 k2,.string n2,.slice na2 nn2 nc2,.slice pa2 pn2 pc2,.bool m2] 83)).heap.size=w.heap.size+1+1:=by simp
 generalize ((w.alloc (.cells #[Value.int .i64 k1,.string n1,.slice na1 nn1 nc1,.slice pa1 pn1 pc1,.bool m1] 83)).alloc (.cells #[Value.int .i64 k2,.string n2,.slice na2 nn2 nc2,.slice pa2 pn2 pc2,.bool m2] 83))=W at *;have HW:Hid (∀w',Below W.heap.size W w'→Below w.heap.size w w'):=λ w' hw=>hB0.trans (hw.mono (by omega));have HSb:Hid (∀w',Below W.heap.size W w'→(λ w'=>(∀o,w'.cell? ⟨w.heap.size,o,none⟩=(#[Value.int .i64 k1,.string n1,.slice na1 nn1 nc1,.slice pa1 pn1 pc1,.bool m1])[o]?)∧(∀o,w'.cell? ⟨w.heap.size+1,o,none⟩=(#[Value.int .i64 k2,.string n2,.slice na2 nn2 nc2,.slice pa2 pn2 pc2,.bool m2])[o]?)) w'):=λ w' hw=>⟨λ o=>(hw.cell (p:=⟨w.heap.size,o,none⟩) (by show w.heap.size<_;omega)).trans (hx00 o),λ o=>(hw.cell (p:=⟨w.heap.size+1,o,none⟩) (by show w.heap.size+1<_;omega)).trans (hy00 o)⟩
 have ca:=λ w' (hw:Below W.heap.size W w')=>cma w' (HA.below (HW w' hw));have cb:=λ w' (hw:Below W.heap.size W w')=>cmb w' (HBt.below (HW w' hw));have HB0:Hid (Below W.heap.size W W.drew):=(Below.refl _ _).drew;clear hx00 hy00 hz0 hB0 cma cmb;refine wp_region_held_drew (S:=(λ w'=>(∀o,w'.cell? ⟨w.heap.size,o,none⟩=(#[Value.int .i64 k1,.string n1,.slice na1 nn1 nc1,.slice pa1 pn1 pc1,.bool m1])[o]?)∧(∀o,w'.cell? ⟨w.heap.size+1,o,none⟩=(#[Value.int .i64 k2,.string n2,.slice na2 nn2 nc2,.slice pa2 pn2 pc2,.bool m2])[o]?))) (by kernel_rfl) (HSb _ HB0) (λ hHeld=>?_);refine th 0 ?_;refine wpAnyH_ready (rs:=[1]) (by kernel_rfl) (by simp) ?_;refine AllReadyH.cons rfl (λ K hK=>?_) AllReadyH.nil;go_simp;refine (ca _ HB0).mono ?_;rintro e w1 ⟨rfl,hb⟩;have Hw1:Hid (Below W.heap.size W w1):=HB0.trans (hb.mono HB0.size);refine hK.out _ _ (HSb _ Hw1) (λ hHeld_w1=>?_);clear hK K hb;try simp only[qq]
 refine th 2 ?_;refine thN 3 ?_;refine thN 4 ?_;refine th 5 ?_;refine th 6 ?_;refine thN 7 ?_;refine thN 8 ?_;refine thN 9 ?_;refine thN 10 ?_;refine thN 11 ?_;refine th 12 ?_;refine th 13 ?_;refine wpAnyH_done (by kernel_rfl) ?_ _;go_wp2;go_ret
 exact⟨rfl,HW _ Hw1⟩
theorem same_b (hm:mayN 4 a=true) (hm2:mayN 4 b=false):Calls prog 74 #[va,vb] w λ e w'=>e=.returned (.bool false)∧Below w.heap.size w w':=by
 have HA:=ah ha;have HBt:=ah hb;obtain⟨k1,n1,na1,nn1,nc1,pa1,pn1,pc1,m1,rfl⟩:=ha.form;obtain⟨k2,n2,na2,nn2,nc2,pa2,pn2,pc2,m2,rfl⟩:=hb.form;clear ha hb;have cma:=λ w' (hv:TyV w' a (.agg #[Value.int .i64 k1,.string n1,.slice na1 nn1 nc1,.slice pa1 pn1 pc1,.bool m1]))=>pMay_any a _ w' hv;have cmb:=λ w' (hv:TyV w' b (.agg #[Value.int .i64 k2,.string n2,.slice na2 nn2 nc2,.slice pa2 pn2 pc2,.bool m2]))=>pMay_any b _ w' hv;rw[hm] at cma;rw[hm2] at cmb;go_enter func74,ntmps74;go_wp2_with fail;have hB0:Below w.heap.size w ((w.alloc (.cells #[Value.int .i64 k1,.string n1,.slice na1 nn1 nc1,.slice pa1 pn1 pc1,.bool m1] 83)).alloc (.cells #[Value.int .i64 k2,.string n2,.slice na2 nn2 nc2,.slice pa2 pn2 pc2,.bool m2] 83)):=((Below.refl _ _).alloc (Nat.le_refl _) _).alloc (by simp) _;have hx00:∀o,((w.alloc (.cells #[Value.int .i64 k1,.string n1,.slice na1 nn1 nc1,.slice pa1 pn1 pc1,.bool m1] 83)).alloc (.cells #[Value.int .i64 k2,.string n2,.slice na2 nn2 nc2,.slice pa2 pn2 pc2,.bool m2] 83)).cell? ⟨w.heap.size,o,none⟩=(#[Value.int .i64 k1,.string n1,.slice na1 nn1 nc1,.slice pa1 pn1 pc1,.bool m1])[o]?:=λ o=>(World.cell?_alloc_past _ _ _ (by simp)).trans (World.cell?_alloc_at _ _ _ _ rfl);have hy00:∀o,((w.alloc (.cells #[Value.int .i64 k1,.string n1,.slice na1 nn1 nc1,.slice pa1 pn1 pc1,.bool m1] 83)).alloc (.cells #[Value.int .i64 k2,.string n2,.slice na2 nn2 nc2,.slice pa2 pn2 pc2,.bool m2] 83)).cell? ⟨w.heap.size+1,o,none⟩=(#[Value.int .i64 k2,.string n2,.slice na2 nn2 nc2,.slice pa2 pn2 pc2,.bool m2])[o]?:=λ o=>World.cell?_alloc_at _ _ _ _ (by simp);have hz0:((w.alloc (.cells #[Value.int .i64 k1,.string n1,.slice na1 nn1 nc1,.slice pa1 pn1 pc1,.bool m1] 83)).alloc (.cells #[Value.int .i64 k2,.string n2,.slice na2 nn2 nc2,.slice pa2 pn2 pc2,.bool m2] 83)).heap.size=w.heap.size+1+1:=by simp
 generalize ((w.alloc (.cells #[Value.int .i64 k1,.string n1,.slice na1 nn1 nc1,.slice pa1 pn1 pc1,.bool m1] 83)).alloc (.cells #[Value.int .i64 k2,.string n2,.slice na2 nn2 nc2,.slice pa2 pn2 pc2,.bool m2] 83))=W at *;have HW:Hid (∀w',Below W.heap.size W w'→Below w.heap.size w w'):=λ w' hw=>hB0.trans (hw.mono (by omega));have HSb:Hid (∀w',Below W.heap.size W w'→(λ w'=>(∀o,w'.cell? ⟨w.heap.size,o,none⟩=(#[Value.int .i64 k1,.string n1,.slice na1 nn1 nc1,.slice pa1 pn1 pc1,.bool m1])[o]?)∧(∀o,w'.cell? ⟨w.heap.size+1,o,none⟩=(#[Value.int .i64 k2,.string n2,.slice na2 nn2 nc2,.slice pa2 pn2 pc2,.bool m2])[o]?)) w'):=λ w' hw=>⟨λ o=>(hw.cell (p:=⟨w.heap.size,o,none⟩) (by show w.heap.size<_;omega)).trans (hx00 o),λ o=>(hw.cell (p:=⟨w.heap.size+1,o,none⟩) (by show w.heap.size+1<_;omega)).trans (hy00 o)⟩
 have ca:=λ w' (hw:Below W.heap.size W w')=>cma w' (HA.below (HW w' hw));have cb:=λ w' (hw:Below W.heap.size W w')=>cmb w' (HBt.below (HW w' hw));have HB0:Hid (Below W.heap.size W W.drew):=(Below.refl _ _).drew;clear hx00 hy00 hz0 hB0 cma cmb;refine wp_region_held_drew (S:=(λ w'=>(∀o,w'.cell? ⟨w.heap.size,o,none⟩=(#[Value.int .i64 k1,.string n1,.slice na1 nn1 nc1,.slice pa1 pn1 pc1,.bool m1])[o]?)∧(∀o,w'.cell? ⟨w.heap.size+1,o,none⟩=(#[Value.int .i64 k2,.string n2,.slice na2 nn2 nc2,.slice pa2 pn2 pc2,.bool m2])[o]?))) (by kernel_rfl) (HSb _ HB0) (λ hHeld=>?_);refine th 0 ?_;refine wpAnyH_ready (rs:=[1]) (by kernel_rfl) (by simp) ?_;refine AllReadyH.cons rfl (λ K hK=>?_) AllReadyH.nil;go_simp;refine (ca _ HB0).mono ?_;rintro e w1 ⟨rfl,hb⟩;have Hw1:Hid (Below W.heap.size W w1):=HB0.trans (hb.mono HB0.size);refine hK.out _ _ (HSb _ Hw1) (λ hHeld_w1=>?_);clear hK K hb;try simp only[qq]
 refine th 2 ?_;refine th 3 ?_;refine wpAnyH_ready (rs:=[4]) (by kernel_rfl) (by simp) ?_;refine AllReadyH.cons rfl (λ K hK=>?_) AllReadyH.nil;go_simp;refine (cb _ Hw1).mono ?_;rintro e w2 ⟨rfl,hb⟩;have Hw2:Hid (Below W.heap.size W w2):=Hw1.trans (hb.mono Hw1.size);refine hK.out _ _ (HSb _ Hw2) (λ hHeld_w2=>?_);clear hK K hb;try simp only[qq]
 refine th 5 ?_;refine th 6 ?_;refine thN 7 ?_;refine thN 8 ?_;refine thN 9 ?_;refine thN 10 ?_;refine thN 11 ?_;refine th 12 ?_;refine th 13 ?_;refine wpAnyH_done (by kernel_rfl) ?_ _;go_wp2;go_ret
 exact⟨rfl,HW _ Hw2⟩
theorem same_c (hm:mayN 4 a=true) (hm2:mayN 4 b=true):Calls prog 74 #[va,vb] w λ e w'=>e=.returned (.bool (alikeT a b))∧Below w.heap.size w w':=by
 have HA:=ah ha;have HBt:=ah hb;obtain⟨k1,n1,na1,nn1,nc1,pa1,pn1,pc1,m1,rfl⟩:=ha.form;obtain⟨k2,n2,na2,nn2,nc2,pa2,pn2,pc2,m2,rfl⟩:=hb.form;clear ha hb;have cma:=λ w' (hv:TyV w' a (.agg #[Value.int .i64 k1,.string n1,.slice na1 nn1 nc1,.slice pa1 pn1 pc1,.bool m1]))=>pMay_any a _ w' hv;have cmb:=λ w' (hv:TyV w' b (.agg #[Value.int .i64 k2,.string n2,.slice na2 nn2 nc2,.slice pa2 pn2 pc2,.bool m2]))=>pMay_any b _ w' hv;rw[hm] at cma;rw[hm2] at cmb;have cta:=λ w' (hv:TyV w' a (.agg #[Value.int .i64 k1,.string n1,.slice na1 nn1 nc1,.slice pa1 pn1 pc1,.bool m1]))=>ptext_any a 4 (by omega) hm _ w' hv;have ctb:=λ w' (hv:TyV w' b (.agg #[Value.int .i64 k2,.string n2,.slice na2 nn2 nc2,.slice pa2 pn2 pc2,.bool m2]))=>ptext_any b 4 (by omega) hm2 _ w' hv;have hr:((strOf (textT a)).toList == (strOf (textT b)).toList)=alikeT a b:=by rw[← text_same hm hm2,str_eq];exact decide_eq_decide.2 ⟨λ e=>by have:=congrArg bytes e;exact this,λ e=>by rw[e]⟩
 generalize alikeT a b=r at *;generalize textT a=ta at *;generalize textT b=tb at *;clear hm hm2;go_enter func74,ntmps74;go_wp2_with fail;have hB0:Below w.heap.size w ((w.alloc (.cells #[Value.int .i64 k1,.string n1,.slice na1 nn1 nc1,.slice pa1 pn1 pc1,.bool m1] 83)).alloc (.cells #[Value.int .i64 k2,.string n2,.slice na2 nn2 nc2,.slice pa2 pn2 pc2,.bool m2] 83)):=((Below.refl _ _).alloc (Nat.le_refl _) _).alloc (by simp) _;have hx00:∀o,((w.alloc (.cells #[Value.int .i64 k1,.string n1,.slice na1 nn1 nc1,.slice pa1 pn1 pc1,.bool m1] 83)).alloc (.cells #[Value.int .i64 k2,.string n2,.slice na2 nn2 nc2,.slice pa2 pn2 pc2,.bool m2] 83)).cell? ⟨w.heap.size,o,none⟩=(#[Value.int .i64 k1,.string n1,.slice na1 nn1 nc1,.slice pa1 pn1 pc1,.bool m1])[o]?:=λ o=>(World.cell?_alloc_past _ _ _ (by simp)).trans (World.cell?_alloc_at _ _ _ _ rfl);have hy00:∀o,((w.alloc (.cells #[Value.int .i64 k1,.string n1,.slice na1 nn1 nc1,.slice pa1 pn1 pc1,.bool m1] 83)).alloc (.cells #[Value.int .i64 k2,.string n2,.slice na2 nn2 nc2,.slice pa2 pn2 pc2,.bool m2] 83)).cell? ⟨w.heap.size+1,o,none⟩=(#[Value.int .i64 k2,.string n2,.slice na2 nn2 nc2,.slice pa2 pn2 pc2,.bool m2])[o]?:=λ o=>World.cell?_alloc_at _ _ _ _ (by simp);have hz0:((w.alloc (.cells #[Value.int .i64 k1,.string n1,.slice na1 nn1 nc1,.slice pa1 pn1 pc1,.bool m1] 83)).alloc (.cells #[Value.int .i64 k2,.string n2,.slice na2 nn2 nc2,.slice pa2 pn2 pc2,.bool m2] 83)).heap.size=w.heap.size+1+1:=by simp
 generalize ((w.alloc (.cells #[Value.int .i64 k1,.string n1,.slice na1 nn1 nc1,.slice pa1 pn1 pc1,.bool m1] 83)).alloc (.cells #[Value.int .i64 k2,.string n2,.slice na2 nn2 nc2,.slice pa2 pn2 pc2,.bool m2] 83))=W at *;have HW:Hid (∀w',Below W.heap.size W w'→Below w.heap.size w w'):=λ w' hw=>hB0.trans (hw.mono (by omega));have HSb:Hid (∀w',Below W.heap.size W w'→(λ w'=>(∀o,w'.cell? ⟨w.heap.size,o,none⟩=(#[Value.int .i64 k1,.string n1,.slice na1 nn1 nc1,.slice pa1 pn1 pc1,.bool m1])[o]?)∧(∀o,w'.cell? ⟨w.heap.size+1,o,none⟩=(#[Value.int .i64 k2,.string n2,.slice na2 nn2 nc2,.slice pa2 pn2 pc2,.bool m2])[o]?)) w'):=λ w' hw=>⟨λ o=>(hw.cell (p:=⟨w.heap.size,o,none⟩) (by show w.heap.size<_;omega)).trans (hx00 o),λ o=>(hw.cell (p:=⟨w.heap.size+1,o,none⟩) (by show w.heap.size+1<_;omega)).trans (hy00 o)⟩
 have ca:=λ w' (hw:Below W.heap.size W w')=>cma w' (HA.below (HW w' hw));have cb:=λ w' (hw:Below W.heap.size W w')=>cmb w' (HBt.below (HW w' hw));have HB0:Hid (Below W.heap.size W W.drew):=(Below.refl _ _).drew;have ta':=λ w' (hw:Below W.heap.size W w')=>cta w' (HA.below (HW w' hw));have tb':=λ w' (hw:Below W.heap.size W w')=>ctb w' (HBt.below (HW w' hw));clear hx00 hy00 hz0 hB0 cma cmb cta ctb;refine wp_region_held_drew (S:=(λ w'=>(∀o,w'.cell? ⟨w.heap.size,o,none⟩=(#[Value.int .i64 k1,.string n1,.slice na1 nn1 nc1,.slice pa1 pn1 pc1,.bool m1])[o]?)∧(∀o,w'.cell? ⟨w.heap.size+1,o,none⟩=(#[Value.int .i64 k2,.string n2,.slice na2 nn2 nc2,.slice pa2 pn2 pc2,.bool m2])[o]?))) (by kernel_rfl) (HSb _ HB0) (λ hHeld=>?_);refine th 0 ?_;refine wpAnyH_ready (rs:=[1]) (by kernel_rfl) (by simp) ?_;refine AllReadyH.cons rfl (λ K hK=>?_) AllReadyH.nil;go_simp;refine (ca _ HB0).mono ?_;rintro e w1 ⟨rfl,hb⟩;have Hw1:Hid (Below W.heap.size W w1):=HB0.trans (hb.mono HB0.size);refine hK.out _ _ (HSb _ Hw1) (λ hHeld_w1=>?_);clear hK K hb;try simp only[qq]
 refine th 2 ?_;refine th 3 ?_;refine wpAnyH_ready (rs:=[4]) (by kernel_rfl) (by simp) ?_;refine AllReadyH.cons rfl (λ K hK=>?_) AllReadyH.nil;go_simp;refine (cb _ Hw1).mono ?_;rintro e w2 ⟨rfl,hb⟩;have Hw2:Hid (Below W.heap.size W w2):=Hw1.trans (hb.mono Hw1.size);refine hK.out _ _ (HSb _ Hw2) (λ hHeld_w2=>?_);clear hK K hb;try simp only[qq]
 refine th 5 ?_;refine th 6 ?_;refine th 7 ?_;refine th 9 ?_;refine wpAnyH_ready (rs:=[8]) (by kernel_rfl) (by simp) ?_;refine AllReadyH.cons rfl (λ K hK=>?_) AllReadyH.nil;go_simp;refine (ta' _ Hw2).mono ?_;rintro e w3 ⟨rfl,hb⟩;have Hw3:Hid (Below W.heap.size W w3):=Hw2.trans (hb.mono Hw2.size);refine hK.out _ _ (HSb _ Hw3) (λ hHeld_w3=>?_);clear hK K hb;try simp only[qq]
 refine wpAnyH_ready (rs:=[10]) (by kernel_rfl) (by simp) ?_;refine AllReadyH.cons rfl (λ K hK=>?_) AllReadyH.nil;go_simp;refine (tb' _ Hw3).mono ?_;rintro e w4 ⟨rfl,hb⟩;have Hw4:Hid (Below W.heap.size W w4):=Hw3.trans (hb.mono Hw3.size);refine hK.out _ _ (HSb _ Hw4) (λ hHeld_w4=>?_);clear hK K hb;try simp only[qq]
 refine th 11 ?_;refine th 12 ?_;refine th 13 ?_;refine wpAnyH_done (by kernel_rfl) ?_ _;go_wp2;go_ret
 exact⟨rfl,HW _ Hw4⟩
theorem pSame_any:Calls prog 74 #[va,vb] w λ e w'=>e=.returned (.bool (mayN 4 a && mayN 4 b && alikeT a b))∧Below w.heap.size w w':=by
 cases h1:mayN 4 a with
 | false=>exact same_a a b va vb w ha hb h1
 | true=>
  cases h2:mayN 4 b with
  | false=>exact same_b a b va vb w ha hb h1 h2
  | true=>exact same_c a b va vb w ha hb h1 h2
end
end Go.Proofs.YtdnhbedbpbgeeaaGreatDoor.T
namespace Go.Proofs.YtdnhbedbpbgeeaaGreatDoor.K
open Go.RowKit Go.Proofs.Tryz
variable {e : TypeId} {css : List (List Value)} {v x0 x1 x2 x3 x4 : Value} {a : Option Addr} {b n c z q g o1 o2 o3 o4 : Nat} {H : Snap}
variable {B : Bs} {w w' : World} {L : List Rs}
abbrev tyc (kind:Int)(name:ByteArray)(a:Option Addr)(n c:Nat)(pa:Option Addr)(pn pc:Nat)(many:Bool):List Value:=[.int .i64 kind,.string name,.slice a n c,.slice pa pn pc,.bool many]
inductive TyH (H:Snap):List Value→T.Ty→Prop
 | mk (kind:Int) (name:ByteArray) (nn:Nat) (names:Nat→ByteArray) (pn:Nat) (parts:Nat→T.Ty) (many:Bool) (a:Option Addr) (c:Nat) (pa:Option Addr) (pc:Nat) (b1 o1:Nat) (cur1:Array Value) (e1:TypeId) (f1:Nat × Nat) (b o:Nat) (cur:Array Value) (e:TypeId) (f:Nat × Nat) (E:Nat→List Value):
   (0<nn→a=some ⟨b1,o1,none⟩∧H b1=some (.cells cur1 e1 f1)∧∀j,j<nn→cur1[o1+j]?=some (.string (names j))) →
   (0<pn→pa=some ⟨b,o,none⟩∧H b=some (.cells cur e f))→(∀j,j<pn→(E j).length=5)→(∀j i,j<pn→i<5→cur[o+j*5+i]?=(E j)[i]?)→(∀j,j<pn→TyH H (E j) (parts j)) →
   (-9223372036854775808≤kind∧kind≤9223372036854775807∧nn≤9223372036854775807∧pn≤9223372036854775807∧name.size≤9223372036854775807∧(∀j,j<nn→(names j).size≤9223372036854775807)∧nn≤c∧c≤9223372036854775807∧pn≤pc∧pc≤9223372036854775807) →
   TyH H (tyc kind name a nn c pa pn pc many) (.mk kind name nn names pn parts many)
theorem TyH.up {H' : Snap} {cs : List Value} {t : T.Ty} (h:TyH H cs t) (hl:H.le H'):TyH H' cs t:=by
 induction h with
 | mk kind name nn names pn parts many a c pa pc b1 o1 cur1 e1 f1 b o cur e f E h1 h2 h3 h4 _ h6 ih=>
  exact .mk kind name nn names pn parts many a c pa pc b1 o1 cur1 e1 f1 b o cur e f E (λ hn=>⟨(h1 hn).1,hl _ _ (h1 hn).2.1,(h1 hn).2.2⟩) (λ hn=>⟨(h2 hn).1,hl _ _ (h2 hn).2⟩) h3 h4 ih h6
theorem five_of {l : List Value} (h:l.length=5):∃x0 x1 x2 x3 x4,l=[x0,x1,x2,x3,x4]:=by
 match l,h with
 | [x0,x1,x2,x3,x4],_=>exact⟨x0,x1,x2,x3,x4,rfl⟩
theorem TyH.tyV {cs : List Value} {t : T.Ty} (h:TyH H cs t) (hw:∀q o,H q=some o→w.heap[q]?=some o):T.TyV w t (.agg cs.toArray):=by
 induction h with
 | mk kind name nn names pn parts many a c pa pc b1 o1 cur1 e1 f1 b o cur e f E h1 h2 h3 h4 _ h6 ih=>
  unfold T.TyV;refine⟨a,c,pa,pc,rfl,λ hn=>?_,λ hn=>?_,h6⟩
  ·obtain⟨q1,q2,q3⟩:=h1 hn;exact⟨b1,o1,q1,bO (hw _ _ q2),λ j hj=>(aA (hw _ _ q2) _).trans (q3 j hj)⟩
  obtain⟨q1,q2⟩:=h2 hn;refine⟨b,o,q1,bO (hw _ _ q2),λ j hj=>?_⟩;have hE:=h3 j hj;have hc:=aA (hw _ _ q2);have h5:=ih j hj;have h7:=h4 j;obtain⟨x0,x1,x2,x3,x4,hEj⟩:=five_of hE;rw[hEj] at h7 h5;exact⟨x0,x1,x2,x3,x4,(hc _).trans (h7 0 hj (by omega)),(hc _).trans (h7 1 hj (by omega)),(hc _).trans (h7 2 hj (by omega)),(hc _).trans (h7 3 hj (by omega)),(hc _).trans (h7 4 hj (by omega)),h5⟩
def TyE:El T.Ty:=⟨λ H cs x=>TyH H cs x,λ H H' cs x h hl=>h.up hl⟩
def StE:El ByteArray:=⟨λ_ cs s=>cs=[.string s]∧s.size≤9223372036854775807,λ_ _ _ _ h _=>h⟩
theorem Fr.tyAt (h:Fr B w L) (i:Nat) {cs : List Value} {x : T.Ty} (hi:L[i]?=some (.el TyE cs x)):T.TyV w x (.agg cs.toArray):=by
 obtain⟨H,h⟩:=h;have h1:TyH H cs x:=h.ok _ (List.mem_of_getElem? hi);exact h1.tyV h.snap
theorem Fr.tyOf (h:Fr B w L) (i j:Nat) {pa : Option Addr} {pn pc : Nat} {names : List ByteArray} {parts : List T.Ty} (hi:L[i]?=some (.sl StE (.slice a n c) 9 1 names)) (hj:L[j]?=some (.sl TyE (.slice pa pn pc) 83 5 parts))
  (kind:Int) (name:ByteArray) (many:Bool) (k1:-9223372036854775808≤kind) (k2:kind≤9223372036854775807) (k3:name.size≤9223372036854775807):
  Fr B w (.el TyE (tyc kind name a n c pa pn pc many) (.mk kind name n (λ k=>names.getD k ⟨#[]⟩) pn (λ k=>parts.getD k .leaf) many)::L):=
 h.know (K:=[_]) λ H w0 hr x hx=>by
  obtain rfl:=List.mem_singleton.1 hx;refine⟨?_,λ q hq=>hq⟩;obtain⟨a1,c1,e1,a2,a3,a4⟩:SlP StE (.slice a n c) 9 1 names H:=hr _ (List.mem_of_getElem? hi);obtain⟨b1,d1,f1,b2,b3,b4⟩:SlP TyE (.slice pa pn pc) 83 5 parts H:=hr _ (List.mem_of_getElem? hj);cases e1;cases f1;unfold maxLen at a3 b3;have hnames:∃(g o:Nat) (cur:Array Value) (e:TypeId) (f:Nat × Nat),(0<names.length→a=some ⟨g,o,none⟩∧H g=some (.cells cur e f)∧∀j,j<names.length→cur[o+j]?=some (.string (names.getD j ⟨#[]⟩)))∧∀j,j<names.length→(names.getD j ⟨#[]⟩).size≤9223372036854775807:=by
   by_cases hne:names=[]
   ·subst hne;exact⟨0,0,#[],0,(0,0),λ h=>absurd h (by simp),λ j hj=>absurd hj (by simp)⟩
   obtain⟨g,o,cur,f,q1,q2,q3⟩:=a4 hne;refine⟨g,o,cur,9,f,λ_=>⟨q1,q2,λ k hk=>?_⟩,λ k hk=>?_⟩
   ·obtain⟨cs,m1,m2,m3,m4⟩:=q3 k hk;subst m3;have:=m2 0 (by omega);simpa [List.getD_eq_getElem?_getD,hk] using this
   obtain⟨cs,m1,m2,m3,m4⟩:=q3 k hk;simpa [List.getD_eq_getElem?_getD,hk] using m4
  obtain⟨g1,o1,cur1,e1,f1,hn1,hn2⟩:=hnames;have hparts:∃(g o:Nat) (cur:Array Value) (f:Nat × Nat) (E:Nat→List Value),(0<parts.length→pa=some ⟨g,o,none⟩∧H g=some (.cells cur 83 f))∧(∀j,j<parts.length→(E j).length=5)∧(∀j i,j<parts.length→i<5→cur[o+j*5+i]?=(E j)[i]?)∧∀j,j<parts.length→TyH H (E j) (parts.getD j .leaf):=by
   by_cases hne:parts=[]
   ·subst hne;exact⟨0,0,#[],(0,0),λ_=>[],λ h=>absurd h (by simp),λ j hj=>absurd hj (by simp),λ j i hj=>absurd hj (by simp),λ j hj=>absurd hj (by simp)⟩
   obtain⟨g,o,cur,f,q1,q2,q3⟩:=b4 hne;refine⟨g,o,cur,f,λ k=>if hk:k<parts.length then (q3 k hk).choose else [],λ_=>⟨q1,q2⟩,λ k hk=>?_,λ k i hk hi=>?_,λ k hk=>?_⟩
   ·dsimp only;rw[dif_pos hk];exact (q3 k hk).choose_spec.1
   ·dsimp only;rw[dif_pos hk];exact (q3 k hk).choose_spec.2.1 i hi
   dsimp only;rw[dif_pos hk];have:=(q3 k hk).choose_spec.2.2;rw[List.getD_eq_getElem?_getD,List.getElem?_eq_getElem hk];exact this
  obtain⟨g2,o2,cur2,f2,E,p1,p2,p3,p4⟩:=hparts;exact .mk kind name _ _ _ _ many a c pa pc g1 o1 cur1 e1 f1 g2 o2 cur2 83 f2 E hn1 p1 p2 p3 p4 ⟨k1,k2,by omega,by omega,k3,hn2,a2,a3,b2,b3⟩
theorem Fr.tyBare0 (h:Fr B w L) (k:Int) (hk:0≤k∧k≤4):Fr B w (.el TyE (tyc k eB none 0 0 none 0 0 false) (.mk k eB 0 (λ j=>([]:List ByteArray).getD j ⟨#[]⟩) 0 (λ j=>([]:List T.Ty).getD j .leaf) false)::L):=by
 have h1:=((h.noEls TyE 83 5).give 0 rfl)
 have h2:=((h1.noEls StE 9 1).give 0 rfl)
 exact (h2.tyOf 0 1 rfl rfl k eB false (by omega) (by omega) (by decide)).lose
mutual
def sz:Nd→Nat
 | .mk _ _ _ l=>1+szs l
def szs:List Nd→Nat
 | []=>0
 | n::l=>sz n+szs l
end
theorem fX (n:Nd):0<sz n:=by cases n;simp only[sz];omega
theorem szs_at:∀{l:List Nd}{j:Nat}(h:j<l.length),szs (l.drop j)=sz l[j]+szs (l.drop (j+1))
 | l,j,h=>by rw[eF h,szs]
theorem eH:∀{l:List Nd}{x:Nd},x∈l→sz x≤szs l
 | y::l,x,h=>by
  rcases List.mem_cons.1 h with rfl|h
  ·simp only[szs];omega
  have:=eH h;simp only[szs];omega
theorem bU (n:Nd):sz n=1+szs n.kids:=by cases n;rfl
theorem roomL_sz {R:Nd→Int→Int}(hR:∀x m,0≤R x m→R x m=m - sz x):∀(l:List Nd) (m:Int),0≤roomL R l m→roomL R l m=m - szs l
 | [],m,h=>by simp only[roomL,szs];omega
 | y::l,m,h=>by
  simp only[roomL,szs] at h ⊢;split at h
  ·omega
  rename_i h1
  rw[if_neg h1,roomL_sz hR l _ h,hR y m (by omega)];omega
theorem roomK_sz:∀(k:Nat)(x:Nd)(m:Int),0≤cP k x m→cP k x m=m - sz x
 | 0,x,m,h=>by simp only[cP] at h;omega
 | k+1,x,m,h=>by
  simp only[cP] at h ⊢;split at h
  ·omega
  rename_i h1
  rw[if_neg h1,roomL_sz (roomK_sz k) _ _ h,bU];omega
def mkTy (kind:Int)(name:ByteArray)(names:List ByteArray)(parts:List T.Ty)(many:Bool):T.Ty:=
 .mk kind name names.length (λ k=>names.getD k ⟨#[]⟩) parts.length (λ k=>parts.getD k .leaf) many
def tZ:T.Ty:=mkTy 0 eB [] [] false
def tI:T.Ty:=mkTy 1 eB [] [] false
def tL:T.Ty:=mkTy 2 eB [] [] false
def tyk:T.Ty→Int|.leaf=>0|.mk k _ _ _ _ _ _=>k
def tnn:T.Ty→Nat|.leaf=>0|.mk _ _ n _ _ _ _=>n
def tnm:T.Ty→Nat→ByteArray|.leaf=>λ_=>eB|.mk _ _ _ f _ _ _=>f
def tpn:T.Ty→Nat|.leaf=>0|.mk _ _ _ _ n _ _=>n
def tpt:T.Ty→Nat→T.Ty|.leaf=>λ_=>.leaf|.mk _ _ _ _ _ f _=>f
def tmy:T.Ty→Bool|.leaf=>false|.mk _ _ _ _ _ _ m=>m
abbrev may (t:T.Ty):Bool:=T.mayN 4 t
def same (a b:T.Ty):Bool:=may a && may b && T.alikeT a b
def bS (t:T.Ty):Nat:=if may t=true then T.sizeT t else 0
def eA (t:T.Ty):ByteArray:=if may t=true then T.strOf (T.textT t) else eB
def cA (t:T.Ty):Bool:=decide (tyk t=1) || decide (tyk t=2)
inductive CR (α:Type)
 | ok (x:α)
 | no (c:Int) (a:Nat)
def CR.bind {α β:Type}(q:CR α)(f:α→CR β):CR β:=match q with|.ok x=>f x|.no c a=>.no c a
def askC {α:Type}(b:Bool)(c:Int)(a:Nat)(q:CR α):CR α:=if b=true then q else .no c a
abbrev TM:=ByteArray→Option T.Ty
def putM {α:Type}(f:ByteArray→Option α)(s:ByteArray)(x:α):ByteArray→Option α:=λ t=>if t=s then some x else f t
structure Cs where
 k:Nat
 n:Nat
 st:TM
 de:ByteArray→Option (T.Ty × Bool)
 res:T.Ty
 many:Bool
 env:List TM
 wo:Nat
def eN (st:TM)(s:ByteArray)(at_:Nat):CR T.Ty:=match st s with|some t=>.ok t|none=>.no 4 at_
def typsL (f:Nd→Nat→CR T.Ty):List T.Ty→List Nd→Nat→CR (List T.Ty)
 | acc,[],_=>.ok acc
 | acc,x::l,k=>(f x k).bind λ t=>typsL f (acc++[t]) l (k+sz x)
def typSC (st:TM)(f:Nd→Nat→CR T.Ty)(n:Nd)(k:Nat):CR T.Ty:=
 if n.kind=9 then .ok tI else if n.kind=10 then .ok tL else if n.kind=11 then eN st n.text k
 else (typsL f [] n.kids (k+1)).bind λ ps=>askC (may (mkTy 4 eB [] ps (decide (n.num=1)))) 1 k (.ok (mkTy 4 eB [] ps (decide (n.num=1))))
def typN (st:TM):Nat→Nd→Nat→CR T.Ty
 | 0,_,k=>.no 0 k
 | N+1,n,k=>typSC st (typN st N) n k
def typC (st:TM)(n:Nd)(k:Nat):CR T.Ty:=typN st (sz n) n k
def kid0 (n:Nd):Nd:=n.kids.getD 0 (.mk 0 eB 0 [])
def kid1 (n:Nd):Nd:=n.kids.getD 1 (.mk 0 eB 0 [])
def cJ (st:TM):List ByteArray→List T.Ty→List Nd→Nat→CR (List ByteArray × List T.Ty)
 | ns,ps,[],_=>.ok (ns,ps)
 | ns,ps,x::l,k=>(typC st (kid0 x) (k+1)).bind λ t=>askC (!(ns.any λ y=>decide (y=x.text))) 5 k (cJ st (ns++[x.text]) (ps++[t]) l (k+sz x))
def structC (s:Cs)(n:Nd):CR Cs:=
 (cJ s.st [] [] n.kids (s.k+1)).bind λ p=>askC (!(s.st n.text).isSome) 5 s.k <| askC (may (mkTy 3 n.text p.1 p.2 false)) 1 s.k <|
  .ok { s with k:=s.k+sz n,n:=s.n+1,st:=putM s.st n.text (mkTy 3 n.text p.1 p.2 false) }
def dO {α:Type}(s:Cs)(x:ByteArray)(at_:Nat)(q:CR α):CR α:=askC (!(s.de x).isSome) 5 at_ q
def gE (s:Cs)(n:Nd):CR Cs:=
 (typC s.st (kid0 n) (s.k+1)).bind λ t=>dO s n.text s.k <| askC (cA t && same t (if n.kind=6 then (if (kid1 n).kind=22 then tL else tI) else t)) 3 s.k <|
  .ok { s with k:=s.k+sz n,n:=s.n+1,de:=putM s.de n.text (t,false) }
def b7 (s:Cs)(x:ByteArray)(at_:Nat)(ps:List T.Ty)(many:Bool):CR Cs:=
 dO s x at_ <| askC (may (mkTy 4 eB [] ps many)) 1 at_ <| .ok { s with n:=s.n+1,de:=putM s.de x (mkTy 4 eB [] ps many,true) }
def cY (l:List Nd)(i:Nat):Nd:=l.getD (l.length - i) (.mk 0 eB 0 [])
def externC (s:Cs)(n:Nd):CR Cs:=
 (cJ s.st [] [] (n.kids.take (n.kids.length - 1)) (s.k+1)).bind λ p=>(typC s.st (cY n.kids 1) (s.k+1+szs (n.kids.take (n.kids.length - 1)))).bind λ t=>
  b7 { s with k:=s.k+sz n } n.text s.k (p.2++[t]) (decide (n.num=1))
def f6 (x:ByteArray)(at_:Nat)(t:T.Ty):CR T.Ty:=
 askC (decide (tyk t=3)) 3 at_ <| match (List.range (tnn t)).find? λ i=>decide (tnm t i=x) with|some i=>.ok (tpt t i)|none=>.no 4 at_
def madeC (st:TM)(x:ByteArray)(at_:Nat)(vs:List T.Ty):CR T.Ty:=
 (eN st x at_).bind λ t=>askC (decide (vs.length=tpn t)) 6 at_ <| askC ((List.range (tpn t)).all λ i=>same (vs.getD i .leaf) (tpt t i)) 3 at_ <| .ok t
def resultC (at_:Nat)(t:T.Ty)(ar:List T.Ty):CR T.Ty:=
 askC (decide (tyk t=4)) 3 at_ <| askC (decide (ar.length=tpn t - 1) || (decide (tpn t - 1<ar.length) && tmy t)) 6 at_ <|
  askC ((List.range ar.length).all λ i=>if i<tpn t - 1 then same (ar.getD i .leaf) (tpt t i) else cA (ar.getD i .leaf)) 3 at_ <|
  askC (decide (ar.length≤tpn t - 1+6)) 1 at_ <| .ok (tpt t (tpn t - 1))
def operC (op:Int)(at_:Nat)(l r:T.Ty):CR T.Ty:=
 askC (cA l && same l r) 3 at_ <| if op=5∨op=6 then askC (decide (tyk l=1)) 3 at_ (.ok l) else if op=12∨op=10 then .ok tI else .ok l
def cH:List TM→ByteArray→Option T.Ty
 | [],_=>none
 | f::l,x=>match f x with|some t=>some t|none=>cH l x
def fI (s:Cs)(x:ByteArray)(at_:Nat):CR T.Ty:=match cH s.env x with
 | some t=>.ok t
 | none=>match s.de x with|some p=>askC (!p.2) 3 at_ (.ok p.1)|none=>.no 4 at_
def arg (l:List T.Ty)(i:Nat):T.Ty:=l.getD i .leaf
def bB (s:Cs)(n:Nd)(at_:Nat)(ts:List T.Ty):CR T.Ty:=
 if n.kind=22 then .ok tL
 else if n.kind=23 then fI s n.text at_
 else if n.kind=26 then (match s.de n.text with|some p=>askC p.2 4 at_ (.ok p.1)|none=>.no 4 at_)
 else if n.kind=24 then f6 n.text at_ (arg ts 0)
 else if n.kind=27 then madeC s.st n.text at_ ts
 else if n.kind=25 then resultC at_ (arg ts 0) ts.tail
 else if n.kind=28 then askC (cA (arg ts 0)) 3 at_ (.ok (arg ts 0))
 else if n.kind=29 then askC (decide (tyk (arg ts 0)=1)) 3 at_ (.ok tI)
 else if n.kind=30 then askC (cA (arg ts 0)) 3 at_ (.ok tI)
 else if n.kind=31 then askC (cA (arg ts 0)) 3 at_ (.ok tL)
 else if n.kind=32 then operC n.num at_ (arg ts 0) (arg ts 1)
 else if n.kind=33 then askC s.many 2 at_ (.ok tI)
 else if n.kind=34 then askC s.many 2 at_ (askC (decide (tyk (arg ts 0)=1)) 3 at_ (.ok tI))
 else .ok tI
def cO (s:Cs)(f:Nd→Nat→CR T.Ty)(n:Nd)(k:Nat):CR T.Ty:=
 if n.kind=23∧cH s.env n.text=none then (match s.de n.text with|some (t,true)=>.ok t|_=>f n k) else f n k
def eS (s:Cs)(f:Nd→Nat→CR T.Ty)(kd:Int):List T.Ty→List Nd→Nat→CR (List T.Ty)
 | acc,[],_=>.ok acc
 | acc,x::l,k=>(if kd=25∧acc.isEmpty=true then cO s f x k else f x k).bind λ t=>eS s f kd (acc++[t]) l (k+sz x)
def exprSC (s:Cs)(f:Nd→Nat→CR T.Ty)(n:Nd)(k:Nat):CR T.Ty:=(eS s f n.kind [] n.kids (k+1)).bind λ ts=>bB s n k ts
def bJ (s:Cs):Nat→Nd→Nat→CR T.Ty
 | 0,_,k=>.no 0 k
 | N+1,n,k=>exprSC s (bJ s N) n k
def cM (s:Cs)(n:Nd)(k:Nat):CR T.Ty:=bJ s (sz n) n k
def putE (l:List TM)(x:ByteArray)(t:T.Ty):List TM:=match l with|[]=>[]|f::l=>putM f x t::l
def headE (l:List TM)(x:ByteArray):Option T.Ty:=match l with|[]=>none|f::_=>f x
def statsL (f:Cs→Nd→CR Cs):List Nd→Cs→CR Cs
 | [],s=>.ok s
 | x::l,s=>(f s x).bind λ s=>statsL f l s
def fG (f:Cs→Nd→CR Cs)(m:TM)(s:Cs)(n:Nd):CR Cs:=
 (statsL f n.kids { s with k:=s.k+1,env:=m::s.env }).bind λ u=>.ok { u with env:=s.env,wo:=s.wo }
def bQ (f:Cs→Nd→CR Cs):List Nd→Cs→CR Cs
 | [],s=>.ok s
 | x::l,s=>(fG f (λ_=>none) s x).bind λ s=>bQ f l s
def varC (s:Cs)(n:Nd):CR Cs:=
 (typC s.st (kid0 n) (s.k+1)).bind λ t=>(cM s (kid1 n) (s.k+1+sz (kid0 n))).bind λ v=>
  askC (!(headE s.env n.text).isSome) 5 s.k <| askC (same t v) 3 s.k <| askC (decide (s.wo+bS t≤40)) 1 s.k <|
   .ok { s with k:=s.k+sz n,n:=s.n+1,wo:=s.wo+bS t,env:=putE s.env n.text t }
def statSC (f:Cs→Nd→CR Cs)(s:Cs)(n:Nd):CR Cs:=
 if n.kind=14 then varC s n
 else if n.kind=15 then (cM s (kid0 n) (s.k+1)).bind λ p=>(cM s (kid1 n) (s.k+1+sz (kid0 n))).bind λ v=>askC (same p v) 3 s.k <| .ok { s with k:=s.k+sz n }
 else if n.kind=16∨n.kind=17 then (cM s (kid0 n) (s.k+1)).bind λ t=>(bQ f n.kids.tail { s with k:=s.k+1+sz (kid0 n) }).bind λ u=>askC (decide (tyk t=1)) 3 s.k <| .ok u
 else if n.kind=18 then (cM s (kid0 n) (s.k+1)).bind λ t=>askC (same t s.res) 3 s.k <| .ok { s with k:=s.k+sz n }
 else if n.kind=19 then (cM s (kid0 n) (s.k+1)).bind λ t=>askC (cA t) 3 s.k <| .ok { s with k:=s.k+sz n }
 else if n.kind=20 then (cM s (kid0 n) (s.k+1)).bind λ t=>.ok { s with k:=s.k+sz n }
 else .ok { s with k:=s.k+sz n }
def bL:Nat→Cs→Nd→CR Cs
 | 0,s,_=>.no 0 s.k
 | N+1,s,n=>statSC (bL N) s n
def cG:TM→List ByteArray→List T.Ty→TM
 | m,x::xs,t::ts=>cG (putM m x t) xs ts
 | m,_,_=>m
def cQ (n:Nd):Bool:=decide (0<n.kids.length) && decide ((cY n.kids 1).kind=18)
def funC (s:Cs)(n:Nd):CR Cs:=
 let ls:=n.kids.take (n.kids.length - 2)
 (cJ s.st [] [] ls (s.k+1)).bind λ p=>(typC s.st (cY n.kids 2) (s.k+1+szs ls)).bind λ r=>
  (b7 { s with k:=s.k+1+szs ls+sz (cY n.kids 2),n:=s.n+p.2.length,res:=r,many:=decide (2≤n.num),env:=[],wo:=(p.2.map bS).sum } n.text s.k (p.2++[r]) (decide (2≤n.num))).bind λ s2=>
  askC (decide (s2.wo≤40)) 1 s.k <| (fG (bL (sz (cY n.kids 1))) (cG (λ_=>none) p.1 p.2) s2 (cY n.kids 1)).bind λ u=>
  askC (cQ (cY n.kids 1)) 2 s2.k <| .ok u
def declC (s:Cs)(n:Nd):CR Cs:=
 if n.kind=2 then structC s n else if n.kind=5∨n.kind=6 then gE s n else if n.kind=4 then externC s n else if n.kind=7 then funC s n else .ok s
def cs0:Cs:=⟨0,0,λ_=>none,λ_=>none,tZ,false,[],0⟩
def unitC (n:Nd):CR Cs:=statsL declC n.kids { cs0 with k:=1 }
def checkQ (t:ByteArray):(Nd × List ByteArray) ⊕ (Int × Int):=
 match parseQ t with
 | .inr p=>.inr p
 | .inl n=>match unitC n with
  | .no c a=>.inr (c,a)
  | .ok s=>.inl (n,n.kids.map λ d=>eA (if d.kind=2 then (s.st d.text).getD tZ else (s.de d.text).elim tZ Prod.fst))
section
inductive Tx:Nd→Prop
 | mk (k:Int) (s:ByteArray) (m:Int) (l:List Nd):s.size≤4000→(∀x,x∈l→Tx x)→Tx (.mk k s m l)
theorem Tx.text {n : Nd} (h:Tx n):n.text.size≤4000:=by cases h;assumption
theorem Tx.kids {n : Nd} (h:Tx n):∀x,x∈n.kids→Tx x:=by cases h;assumption
theorem dZ:eB.size≤4000:=by decide
def QA {α:Type}(P:α→Prop)(q:Q α):Prop:=∀x r,q=.ok x r→aB r∧P x
section
variable {α β : Type} {P : α → Prop} {R : β → Prop} {ts r : List Tok}
theorem QA.bind {q : Q α} {f : α→List Tok→Q β} (h:QA P q) (k:∀x r,aB r→P x→QA R (f x r)):QA R (q.bind f):=by
 intro y r e;cases q with
 | no r=>cases e
 | ok x r1=>exact k x r1 (h x r1 rfl).1 (h x r1 rfl).2 y r e
theorem QA.ok {x : α} (h:aB r) (hp:P x):QA P (.ok x r):=λ y r' e=>by cases e;exact⟨h,hp⟩
theorem QA.no:QA P (.no r):=λ y r' e=>by cases e
theorem QA.ite {c : Prop} [Decidable c] {a b : Q α} (ha:c→QA P a) (hb:¬ c→QA P b):QA P (if c then a else b):=by
 by_cases h:c
 ·rw[if_pos h];exact ha h
 rw[if_neg h];exact hb h
theorem aB.tl (h:aB ts):aB ts.tail:=by
 cases ts with
 | nil=>exact h
 | cons t r=>exact h.tail
theorem aB.tx (h:aB ts):(tx ts).size≤4000:=by
 cases ts with
 | nil=>show (0:Nat)≤4000;omega
 | cons t r=>exact (h.2 t (List.mem_cons_self ..)).short
theorem QA.eat {x:ByteArray}{f:List Tok→Q α}(h:aB ts)(k:∀r,aB r→QA P (f r)):QA P (eat x ts f):=by
 unfold K.eat;exact .ite (λ_=>k _ h.tl) λ_=>.no
theorem nameQ_a (h:aB ts):QA (λ s=>s.size≤4000) (bC ts):=.ite (λ_=>.ok h.tl h.tx) λ_=>.no
end
abbrev TxL (l:List Nd):Prop:=∀x,x∈l→Tx x
theorem TxL.nil:TxL []:=λ x h=>by cases h
theorem TxL.one {x : Nd} (h:Tx x):TxL [x]:=λ y hy=>by rw[List.mem_singleton.1 hy];exact h
theorem TxL.app {l k : List Nd} (h:TxL l) (h':TxL k):TxL (l++k):=λ x hx=>by rcases List.mem_append.1 hx with a|a;exact h x a;exact h' x a
theorem TxL.cons {x : Nd} {l : List Nd} (h:Tx x) (h':TxL l):TxL (x::l):=λ y hy=>by rcases List.mem_cons.1 hy with rfl|a;exact h;exact h' y a
variable {ts : List Tok}
theorem numberQ_a (h:aB ts):QA Tx (eE ts):=by
 cases ts with
 | nil=>exact .no
 | cons t r=>exact .ite (λ_=>.ok h.tail (.mk _ _ _ _ dZ TxL.nil)) λ_=>.ite (λ_=>.ok h.tail (.mk _ _ _ _ dZ TxL.nil)) λ_=>.no
theorem valueQ_a (h:aB ts):QA Tx (valueQ ts):=by
 refine .ite (λ_=>?_) λ_=>numberQ_a h;intro x r e;have h1:=numberQ_a h.tl;cases hq:eE ts.tail with
 | no r1=>rw[hq] at e;cases e
 | ok n r1=>
  rw[hq] at e;cases e;have h2:=h1 n _ hq;exact⟨h2.1,.mk _ _ _ _ h2.2.text h2.2.kids⟩
section
variable {ex un part blk st : List Tok → Q Nd} (hex : ∀ ts, aB ts → QA Tx (ex ts)) (hun : ∀ ts, aB ts → QA Tx (un ts)) (hp : ∀ ts, aB ts → QA Tx (part ts)) (hb : ∀ ts, aB ts → QA Tx (blk ts)) (hst : ∀ ts, aB ts → QA Tx (st ts))
theorem insideQ_a (hex:∀ts,aB ts→QA Tx (ex ts)) (h:aB ts):QA Tx (cN ex ts):=.eat h λ r hr=>(hex r hr).bind λ n r hr hn=>.eat hr λ r hr=>.ok hr hn
theorem commaQ_a (hp:∀ts,aB ts→QA Tx (part ts)):∀(m:Nat) (acc:List Nd) (ts:List Tok),TxL acc→aB ts→QA TxL (commaQ part m acc ts)
 | 0,acc,ts,ha,h=>.ok h ha
 | m+1,acc,ts,ha,h=>.ite (λ_=>(hp _ h.tl).bind λ n r hr hn=>commaQ_a hp m _ _ (ha.app (TxL.one hn)) hr) λ_=>.ok h ha
theorem partsQ_a (hp:∀ts,aB ts→QA Tx (part ts)) (cl:ByteArray) (h:aB ts):QA TxL (partsQ part cl ts):=
 .ite (λ_=>.ok h.tl TxL.nil) λ_=>(hp _ h).bind λ n r hr hn=>(commaQ_a hp _ _ _ (TxL.one hn) hr).bind λ l r hr hl=>.eat hr λ r hr=>.ok hr hl
theorem openL_a (hp:∀ts,aB ts→QA Tx (part ts)):∀(m:Nat) (acc:List Nd) (ts:List Tok),TxL acc→aB ts→QA (λ p=>TxL p.1) (eY part m acc ts)
 | 0,acc,ts,ha,h=>.no
 | m+1,acc,ts,ha,h=>.ite (λ_=>.ok h.tl ha) λ_=>(hp _ h).bind λ n r hr hn=>.ite (λ_=>openL_a hp m _ _ (ha.app (TxL.one hn)) hr.tl) λ_=>.ok hr (ha.app (TxL.one hn))
theorem openQ_a (hp:∀ts,aB ts→QA Tx (part ts)) (h:aB ts):QA (λ p=>TxL p.1) (fH part ts):=
 .eat h λ r hr=>.ite (λ_=>.ok hr.tl TxL.nil) λ_=>(openL_a hp _ _ _ TxL.nil hr).bind λ p r hr hl=>.eat hr λ r hr=>.ok hr hl
theorem typS_a (hp:∀ts,aB ts→QA Tx (part ts)) (h:aB ts):QA Tx (typS part ts):=
 .ite (λ_=>(openQ_a hp h.tl).bind λ p r hr hl=>(hp _ hr).bind λ t r hr ht=>.ok hr (.mk _ _ _ _ dZ (hl.app (TxL.one ht)))) λ_=>
  .ite (λ_=>.ok h.tl (.mk _ _ _ _ dZ TxL.nil)) λ_=>(nameQ_a h).bind λ s r hr hs=>.ok hr (.mk _ _ _ _ hs TxL.nil)
theorem typK_a:∀(k:Nat)(ts:List Tok),aB ts→QA Tx (typK k ts)
 | 0,ts,h=>.no
 | k+1,ts,h=>typS_a (typK_a k) h
theorem typQ_a (ts:List Tok) (h:aB ts):QA Tx (typQ ts):=typK_a _ ts h
theorem typedQ_a (k:Int) (ts:List Tok) (h:aB ts):QA Tx (fW k ts):=(typQ_a _ h).bind λ t r hr ht=>(nameQ_a hr).bind λ s r hr hs=>.ok hr (.mk _ _ _ _ hs (TxL.one ht))
theorem firstQ_a (hex:∀ts,aB ts→QA Tx (ex ts)) (h:aB ts):QA Tx (dP ex ts):=
 .ite (λ_=>(insideQ_a hex h.tl).bind λ n r hr hn=>.ok hr (.mk _ _ _ _ dZ (TxL.one hn))) λ_=>
 .ite (λ_=>insideQ_a hex h) λ_=>
 .ite (λ_=>(nameQ_a h.tl).bind λ s r hr hs=>.ok hr (.mk _ _ _ _ hs TxL.nil)) λ_=>
 .ite (λ_=>.ok h.tl (.mk _ _ _ _ dZ TxL.nil)) λ_=>
 .ite (λ_=>(insideQ_a hex h.tl).bind λ n r hr hn=>.ok hr (.mk _ _ _ _ dZ (TxL.one hn))) λ_=>
 .ite (λ_=>numberQ_a h) λ_=>(nameQ_a h).bind λ s r hr hs=>
 .ite (λ_=>(partsQ_a hex _ hr.tl).bind λ l r hr hl=>.ok hr (.mk _ _ _ _ hs hl)) λ_=>.ok hr (.mk _ _ _ _ hs TxL.nil)
theorem behindQ_a (hex:∀ts,aB ts→QA Tx (ex ts)):∀(m:Nat) (n:Nd) (ts:List Tok),Tx n→aB ts→QA Tx (dB ex m n ts)
 | 0,n,ts,hn,h=>.ok h hn
 | m+1,n,ts,hn,h=>.ite (λ_=>(nameQ_a h.tl).bind λ s r hr hs=>behindQ_a hex m _ _ (.mk _ _ _ _ hs (TxL.one hn)) hr) λ_=>
  .ite (λ_=>(partsQ_a hex _ h.tl).bind λ l r hr hl=>behindQ_a hex m _ _ (.mk _ _ _ _ dZ (hl.cons hn)) hr) λ_=>.ok h hn
theorem rowQ_a (hp:∀ts,aB ts→QA Tx (part ts))(firm:Int):∀(m:Nat) (n:Nd) (ts:List Tok),Tx n→aB ts→QA Tx (rowQ part firm m n ts)
 | 0,n,ts,hn,h=>.ok h hn
 | m+1,n,ts,hn,h=>by
  unfold rowQ;split
  ·exact .ok h hn
  exact (hp _ h.tl).bind λ y r hr hy=>rowQ_a hp firm m _ _ (.mk _ _ _ _ dZ (TxL.cons hn (TxL.one hy))) hr
theorem productQ_a (hun:∀ts,aB ts→QA Tx (un ts)) (ts:List Tok) (h:aB ts):QA Tx (productQ un ts):=(hun _ h).bind λ n r hr hn=>rowQ_a hun _ _ _ _ hn hr
theorem sumQ_a (hun:∀ts,aB ts→QA Tx (un ts)) (h:aB ts):QA Tx (sumQ un ts):=(productQ_a hun _ h).bind λ n r hr hn=>rowQ_a (productQ_a hun) _ _ _ _ hn hr
theorem exprS_a (hun:∀ts,aB ts→QA Tx (un ts)) (ts:List Tok) (h:aB ts):QA Tx (exprS un ts):=(sumQ_a hun h).bind λ n r hr hn=>by
 split
 ·exact .ok hr hn
 exact (sumQ_a hun hr.tl).bind λ y r hr hy=>.ok hr (.mk _ _ _ _ dZ (TxL.cons hn (TxL.one hy)))
theorem unaryS_a (hex:∀ts,aB ts→QA Tx (ex ts)) (hun:∀ts,aB ts→QA Tx (un ts)) (h:aB ts):QA Tx (unaryS ex un ts):=
 .ite (λ_=>(hun _ h.tl).bind λ n r hr hn=>.ok hr (.mk _ _ _ _ dZ (TxL.one hn))) λ_=>
 .ite (λ_=>(hun _ h.tl).bind λ n r hr hn=>.ok hr (.mk _ _ _ _ dZ (TxL.one hn))) λ_=>(firstQ_a hex h).bind λ n r hr hn=>behindQ_a hex _ _ _ hn hr
theorem unaryK_a:∀(k:Nat)(ts:List Tok),aB ts→QA Tx (unaryK k ts)
 | 0,ts,h=>.no
 | k+1,ts,h=>unaryS_a (exprS_a (unaryK_a k)) (unaryK_a k) h
theorem exprQ_a (ts:List Tok) (h:aB ts):QA Tx (exprQ ts):=exprS_a (unaryK_a _) ts h
theorem setOrDoQ_a (h:aB ts):QA Tx (eD ts):=(nameQ_a h).bind λ s r hr hs=>(behindQ_a exprQ_a _ _ _ (.mk _ _ _ _ hs TxL.nil) hr).bind λ n r hr hn=>
 .ite (λ_=>.ok hr (.mk _ _ _ _ dZ (TxL.one hn))) λ_=>.ite (λ_=>.no) λ_=>.eat hr λ r hr=>(exprQ_a _ hr).bind λ x r hr hx=>.ok hr (.mk _ _ _ _ dZ (TxL.cons hn (TxL.one hx)))
theorem statS_a (hb:∀ts,aB ts→QA Tx (blk ts)) (h:aB ts):QA Tx (b9 blk ts):=
 .ite (λ_=>(insideQ_a exprQ_a h.tl).bind λ c r hr hc=>(hb _ hr).bind λ b r hr hbb=>.ite (λ_=>(hb _ hr.tl).bind λ d r hr hd=>.ok hr (.mk _ _ _ _ dZ (TxL.cons hc (TxL.cons hbb (TxL.one hd))))) λ_=>.ok hr (.mk _ _ _ _ dZ (TxL.cons hc (TxL.one hbb)))) λ_=>
 .ite (λ_=>(insideQ_a exprQ_a h.tl).bind λ c r hr hc=>(hb _ hr).bind λ b r hr hbb=>.ok hr (.mk _ _ _ _ dZ (TxL.cons hc (TxL.one hbb)))) λ_=>
 .ite (λ_=>(exprQ_a _ h.tl).bind λ x r hr hx=>.eat hr λ r hr=>.ok hr (.mk _ _ _ _ dZ (TxL.one hx))) λ_=>
 .ite (λ_=>(insideQ_a exprQ_a h.tl).bind λ x r hr hx=>.eat hr λ r hr=>.ok hr (.mk _ _ _ _ dZ (TxL.one hx))) λ_=>
 .ite (λ_=>(setOrDoQ_a h).bind λ n r hr hn=>.eat hr λ r hr=>.ok hr hn) λ_=>
 (typedQ_a _ _ h).bind λ n r hr hn=>.eat hr λ r hr=>(exprQ_a _ hr).bind λ x r hr hx=>.eat hr λ r hr=>.ok hr (.mk _ _ _ _ hn.text (TxL.app hn.kids (TxL.one hx)))
theorem blockL_a (hst:∀ts,aB ts→QA Tx (st ts)):∀(m:Nat) (acc:List Nd) (ts:List Tok),TxL acc→aB ts→QA Tx (blockL st m acc ts)
 | 0,acc,ts,ha,h=>.no
 | m+1,acc,ts,ha,h=>.ite (λ_=>.ok h.tl (.mk _ _ _ _ dZ ha)) λ_=>(hst _ h).bind λ n r hr hn=>blockL_a hst m _ _ (ha.app (TxL.one hn)) hr
theorem blockS_a (hst:∀ts,aB ts→QA Tx (st ts)) (ts:List Tok) (h:aB ts):QA Tx (blockS st ts):=.eat h λ r hr=>blockL_a hst _ _ _ TxL.nil hr
theorem statK_a:∀(k:Nat)(ts:List Tok),aB ts→QA Tx (statK k ts)
 | 0,ts,h=>.no
 | k+1,ts,h=>statS_a (blockS_a (statK_a k)) h
theorem fieldsL_a:∀(m:Nat)(acc:List Nd)(ts:List Tok),TxL acc→aB ts→QA TxL (fieldsL m acc ts)
 | 0,acc,ts,ha,h=>.no
 | m+1,acc,ts,ha,h=>(typedQ_a _ _ h).bind λ n r hr hn=>.eat hr λ r hr=>.ite (λ_=>.ok hr.tl (ha.app (TxL.one hn))) λ_=>fieldsL_a m _ _ (ha.app (TxL.one hn)) hr
theorem declQ_a (ts:List Tok) (h:aB ts):QA Tx (declQ ts):=by
 have hd:∀m ts,aB ts→QA Tx (cU m ts):=λ m ts h=>(typedQ_a _ _ h).bind λ n r hr hn=>
  .ite (λ_=>(valueQ_a hr.tl).bind λ v r hr hv=>.eat hr λ r hr=>.ok hr (.mk _ _ _ _ hn.text (TxL.app hn.kids (TxL.one hv)))) λ_=>
   (openQ_a (typedQ_a _) hr).bind λ p r hr hl=>(blockS_a (statK_a _) _ hr).bind λ b r hr hb=>.ok hr (.mk _ _ _ _ hn.text ((hl.app hn.kids).app (TxL.one hb)))
 refine .ite (λ_=>?_) λ_=>.ite (λ_=>?_) λ_=>.ite (λ_=>hd _ _ h.tl) λ_=>hd _ _ h
 ·exact (nameQ_a h.tl).bind λ s r hr hs=>.eat hr λ r hr=>(fieldsL_a _ _ _ TxL.nil hr).bind λ l r hr hl=>.ok hr (.mk _ _ _ _ hs hl)
 exact (typedQ_a _ _ h.tl).bind λ n r hr hn=>.ite (λ_=>.ok hr.tl hn) λ_=>(openQ_a (typedQ_a _) hr).bind λ p r hr hl=>.eat hr λ r hr=>.ok hr (.mk _ _ _ _ hn.text (hl.app hn.kids))
theorem unitL_a:∀(m:Nat)(acc:List Nd)(ts:List Tok),TxL acc→aB ts→QA Tx (unitL m acc ts)
 | 0,acc,ts,ha,h=>.no
 | m+1,acc,ts,ha,h=>.ite (λ e=>.ok (by subst e;exact h) (.mk _ _ _ _ dZ ha)) λ_=>(declQ_a _ h).bind λ n r hr hn=>unitL_a m _ _ (ha.app (TxL.one hn)) hr
end
theorem parse_a {t : ByteArray} {n : Nd} (h:parseQ t=.inl n):Tx n∧sz n≤700:=by
 unfold parseQ at h;split at h
 ·cases h
 split at h
 ·cases h
 rename_i n' r e
 split at h
 ·cases h;rename_i hr
  have:=roomK_sz 16 _ 700 hr;exact⟨(unitL_a _ _ _ TxL.nil (scan_all t) _ _ e).2,by omega⟩
 cases h
end
def Rs.all (Ks:List Rs):Rs where
 own:=λ q=>∃r,r∈Ks∧r.own q
 ok:=λ H w=>(∀r,r∈Ks→r.ok H w)∧Ks.Pairwise λ (a b:Rs)=>∀q:Nat,a.own q→¬ b.own q
 lt:=λ H w h q hq=>by obtain⟨r,hr,hq⟩:=hq;exact r.lt H w (h.1 r hr) q hq
 keep:=λ H w H' w' h hl hk=>⟨λ r hr=>r.keep H w H' w' (h.1 r hr) hl λ q hq=>hk q ⟨r,hr,hq⟩,h.2⟩
theorem Fr.opn {Ks : List Rs} (h:Fr B w (.all Ks::L)):Fr B w (Ks++L):=by
 obtain⟨H,h⟩:=h;obtain⟨h1,h2⟩:(Rs.all Ks).ok H w:=h.ok _ (List.mem_cons_self ..);obtain⟨h3,h4⟩:=List.pairwise_cons.1 h.off;refine⟨H,h.below,h.le,h.snap,λ r hr=>?_,λ r hr q hq=>?_,List.pairwise_append.2 ⟨h2,h4,λ a ha b hb q hq=>h3 b hb q ⟨a,ha,hq⟩⟩⟩
 ·rcases List.mem_append.1 hr with hr|hr
  ·exact h1 r hr
  exact h.ok r (List.mem_cons_of_mem _ hr)
 rcases List.mem_append.1 hr with hr|hr
 ·exact h.lo (.all Ks) (List.mem_cons_self ..) q ⟨r,hr,hq⟩
 exact h.lo r (List.mem_cons_of_mem _ hr) q hq
theorem Fr.cls {Ks : List Rs} (h:Fr B w (Ks++L)):Fr B w (.all Ks::L):=by
 obtain⟨H,h⟩:=h;obtain⟨h1,h2,h3⟩:=List.pairwise_append.1 h.off;refine⟨H,h.below,h.le,h.snap,λ r hr=>?_,λ r hr q hq=>?_,List.pairwise_cons.2 ⟨λ b hb q hq=>?_,h2⟩⟩
 ·rcases List.mem_cons.1 hr with rfl|hr
  ·exact⟨λ x hx=>h.ok x (List.mem_append_left _ hx),h1⟩
  exact h.ok r (List.mem_append_right _ hr)
 ·rcases List.mem_cons.1 hr with rfl|hr
  ·obtain⟨x,hx,hq⟩:=hq;exact h.lo x (List.mem_append_left _ hx) q hq
  exact h.lo r (List.mem_append_right _ hr) q hq
 obtain⟨x,hx,hq⟩:=hq;exact h3 x hx b hb q hq
structure VE (α:Type) where
 p:Snap→Value→α→Prop
 up:∀H H' v x,p H v x→H.le H'→p H' v x
def Rs.ve {α:Type}(E:VE α)(v:Value)(x:α):Rs:=.fact ⟨λ H=>E.p H v x,λ H H' h hl=>E.up H H' v x h hl⟩
def rdV (v:Value):Option (DataW Value × List MemPlace):=some (.held v,[])
def Rs.mp {α:Type}(zv:Value)(E:VE α)(mb N:Nat)(f:ByteArray→Option α):Rs where
 own:=λ k=>k=mb
 ok:=λ H w=>∃D k,k≤N∧w.ownsMap prog 9 rdV mb k D∧Maps.IsMap D∧(∀s:ByteArray,Maps.has D (.string s.data.toList)=(f s).isSome)∧(∀s,f s=none→D.atKey (.string s.data.toList) (.held zv)=.held zv)∧∀s x,f s=some x→∃v,E.p H v x∧D.atKey (.string s.data.toList) (.held zv)=.held v
 lt:=λ H w h k hk=>by obtain⟨D,_,_,h,_⟩:=h;subst hk;exact h.lt
 keep:=λ H w H' w' h hl hk=>by
  obtain⟨D,k,hkN,⟨es,clock,hb,r⟩,h2,h3,h4,h5⟩:=h;exact⟨D,k,hkN,⟨es,clock,(hk mb rfl).trans hb,r⟩,h2,h3,h4,λ s x e=>by obtain⟨v,h6,h7⟩:=h5 s x e;exact⟨v,E.up H H' v x h6 hl,h7⟩⟩
section
variable {α : Type} {E : VE α} {zv : Value} {mb N : Nat} {f : ByteArray → Option α}
theorem Fr.mpMade (E:VE α) (zv:Value) (N:Nat) (h:Fr B w L) (hq:w.heap.size=q):Fr B (w.alloc (.map #[] 0)) (.mp zv E q N (λ_=>none)::L):=by
 subst hq;obtain⟨H,h⟩:=h;exact⟨H,h.new ((Below.refl _ _).alloc (Nat.le_refl _) _) (r:=.mp zv E w.heap.size N (λ_=>none)) ⟨.map [],0,Nat.zero_le _,World.ownsMap_made w _ _ _,Maps.isMap_empty,λ s=>rfl,λ s _=>WideAt.atKey_none _ (by simp),λ s x e=>by cases e⟩ λ q hq=>Nat.le_of_eq hq.symm⟩
section
variable (h:Fr B w L) (i:Nat) (hi:L[i]?=some (.mp zv E mb N f))
include h hi
theorem Fr.mpMore {M : Nat} (hM:N≤M):Fr B w (L.set i (.mp zv E mb M f)):=by
 refine h.turn i hi (λ_ _ _=>rfl) rfl rfl rfl (Nat.le_refl _) (λ H hr=>?_) λ q hq=>Or.inl hq;obtain⟨D,k,h1,h2⟩:=hr;exact⟨D,k,Nat.le_trans h1 hM,h2⟩
theorem Fr.mpLook (t e:TypeId) (ht:prog.underlying t=some (.map 9 e)) (hz:∀w,(zeroValue e).run prog w=.ok zv w) (s:ByteArray) (hs:s.size≤maxLen):
  ∃v,(∀w',w'.heap[mb]?=w.heap[mb]?→(Instr.lookup t (.map (some mb)) (.string s) true).run prog w'=.ok (.tuple #[v,.bool (f s).isSome]) w'∧(Instr.lookup t (.map (some mb)) (.string s) false).run prog w'=.ok v w')∧(f s=none→v=zv)∧∀x,f s=some x→Fr B w (.ve E v x::L):=by
 have hF:=h;obtain⟨H,h⟩:=h;obtain⟨D,k,hk,hown,h2,h3,h4,h5⟩:(Rs.mp zv E mb N f).ok H w:=h.ok _ (List.mem_of_getElem? hi);obtain⟨es,clock,hb,r⟩:=hown;have key:∀w':World,w'.heap[mb]?=w.heap[mb]?→w'.ownsMap prog 9 rdV mb k D:=λ w' e=>⟨es,clock,e.trans hb,r⟩
 have run:∀w':World,w'.heap[mb]?=w.heap[mb]?→∀v,D.atKey (.string s.data.toList) (.held zv)=.held v→(Instr.lookup t (.map (some mb)) (.string s) true).run prog w'=.ok (.tuple #[v,.bool (f s).isSome]) w'∧(Instr.lookup t (.map (some mb)) (.string s) false).run prog w'=.ok v w':=λ w' ew v hv=>by
  obtain⟨v1,ps,hrun,hv1⟩:=(key w' ew).look_ok (t:=t) (e:=e) (Maps.string_keyed underlying9) ht (hz w') (zd:=.held zv) (zp:=[]) rfl (WideMaps.keyOf_string_mk underlying9 hs);obtain⟨v2,ps2,hrun2,hv2⟩:=(key w' ew).lookup (t:=t) (e:=e) (Maps.string_keyed underlying9) ht (hz w') (zd:=.held zv) (zp:=[]) rfl (WideMaps.keyOf_string_mk underlying9 hs);rw[h3 s] at hrun;rw[hv] at hv1 hv2;unfold rdV at hv1 hv2;simp at hv1 hv2;rw[hrun,hrun2,hv1.1,hv2.1];exact⟨rfl,rfl⟩
 cases e:f s with
 | none=>
  refine⟨zv,λ w' e'=>?_,λ_=>rfl,λ x hx=>(by cases hx)⟩;rw[← e];exact run w' e' _ (h4 s e)
 | some x=>
  obtain⟨v,h6,h7⟩:=h5 s x e;refine⟨v,λ w' e'=>?_,λ hx=>(by cases hx),λ y hy=>?_⟩
  ·rw[← e];exact run w' e' _ h7
  cases hy;exact⟨H,h.free (r:=.ve E v x) h6 λ q hq=>hq⟩
theorem Fr.mpPut (t e:TypeId) (ht:prog.underlying t=some (.map 9 e)) (s:ByteArray) (hs:s.size≤maxLen) (hN:N<maxLen) {x : α} (j:Nat) (hj:L[j]?=some (.ve E v x)):
  ∃w',(Instr.mapUpdate t (.map (some mb)) (.string s) v).run prog w=.ok () w'∧Fr B w' (L.set i (.mp zv E mb (N+1) (putM f s x)))∧w.grownBy w' (some mb):=by
 obtain⟨H,h⟩:=h;have hm:=List.mem_of_getElem? hi;obtain⟨D,k,hk,hown,h2,h3,h4,h5⟩:(Rs.mp zv E mb N f).ok H w:=h.ok _ hm;have hv:E.p H v x:=h.ok _ (List.mem_of_getElem? hj);obtain⟨w',k1,k2,k3⟩:=hown.update (t:=t) (e:=e) (Maps.string_keyed underlying9) ht (by omega) (WideMaps.keyOf_string_mk underlying9 hs) (val:=v) (d:=.held v) (ps:=[]) rfl;have hlo:=h.lo _ hm mb rfl;have hne:∀s':ByteArray,s'≠s→Lit.string s'.data.toList≠Lit.string s.data.toList:=λ s' e x=>by
  injection x with y
  exact e (ByteArray.ext (Array.toList_inj.1 y))
 refine⟨w',k1,⟨H,h.turn i hi ⟨k3.os.trans h.below.os,k3.tape.trans h.below.tape,k3.output.trans h.below.output,Nat.le_trans h.below.size k3.size,λ q hq=>?_⟩ k3.size (λ q hq hne=>k3.block q hq λ e=>hne (Option.some.inj e.symm).symm) ?_ λ q hq=>Or.inl hq⟩,k3⟩
 ·refine (k3.block q (Nat.lt_of_lt_of_le hq h.le) λ e=>?_).trans (h.below.block q hq);have:=Option.some.inj e;omega
 refine⟨_,k+1,by omega,k2,h2.put _ _,λ t=>?_,λ t ht=>?_,λ t y ht=>?_⟩
 ·unfold putM;by_cases e:t=s
  ·subst e;rw[Maps.has_put_same h2 (show WideAt.IsKeyLit (.string t.data.toList) from trivial)];simp
  rw[Maps.has_put_other (hne t e),h3 t,if_neg e]
 ·unfold putM at ht;by_cases e:t=s
  ·rw[if_pos e] at ht;cases ht
  rw[if_neg e] at ht;rw[Maps.atKey_put_other (hne t e),h4 t ht]
 unfold putM at ht;by_cases e:t=s
 ·subst e;rw[if_pos rfl] at ht;cases ht;exact⟨v,hv,by rw[Maps.atKey_put_same h2 (show WideAt.IsKeyLit (.string t.data.toList) from trivial)]⟩
 rw[if_neg e] at ht;obtain⟨u,h6,h7⟩:=h5 t y ht;exact⟨u,h6,by rw[Maps.atKey_put_other (hne t e),h7]⟩
end
end
def VTy:VE T.Ty:=⟨λ H v t=>∃x0 x1 x2 x3 x4,v=.agg #[x0,x1,x2,x3,x4]∧TyE.p H [x0,x1,x2,x3,x4] t,λ H H' v t h hl=>by obtain⟨x0,x1,x2,x3,x4,h1,h2⟩:=h;exact⟨x0,x1,x2,x3,x4,h1,TyE.up H H' _ _ h2 hl⟩⟩
def VMe:VE (T.Ty × Bool):=⟨λ H v t=>∃x0 x1 x2 x3 x4,v=.agg #[x0,x1,x2,x3,x4,.bool t.2]∧TyE.p H [x0,x1,x2,x3,x4] t.1,λ H H' v t h hl=>by obtain⟨x0,x1,x2,x3,x4,h1,h2⟩:=h;exact⟨x0,x1,x2,x3,x4,h1,TyE.up H H' _ _ h2 hl⟩⟩
abbrev zTy:Value:=.agg #[.int .i64 0,.string ⟨#[]⟩,.slice none 0 0,.slice none 0 0,.bool false]
abbrev zMe:Value:=.agg #[.int .i64 0,.string ⟨#[]⟩,.slice none 0 0,.slice none 0 0,.bool false,.bool false]
structure CP where
 n0:Value
 n1:Value
 n2:Value
 n3:Value
 r0:Value
 r1:Value
 r2:Value
 r3:Value
 r4:Value
 kv:Value
 bv:Value
 sm:Nat
 dm:Nat
 em:List Nat
def AnyE:El Unit:=⟨λ_ _ _=>True,λ_ _ _ _ _ _=>trivial⟩
abbrev Rs.some5 (v:Value)(n:Nat):Rs:=.els AnyE v 83 5 (List.replicate n ())
def envR (N:Nat):List Nat→List TM→List Rs
 | m::ms,f::fs=>.mp zTy VTy m N f::envR N ms fs
 | _,_=>[]
structure CInv (p:CP)(s:Cs):Prop where
 len:p.em.length=s.env.length
 n:s.n≤s.k
 k:s.k≤16000
 st:∀x t,s.st x=some t→may t=true
 de:∀x m,s.de x=some m→may m.1=true
 env:∀f,f∈s.env→∀x t,f x=some t→may t=true
 wo:s.wo≤1000000
 el:s.env.length≤s.k
def Rs.pure (P:Prop):Rs:=.fact ⟨λ_=>P,λ_ _ h _=>h⟩
abbrev csC (p:CP)(s:Cs):Array Value:=#[p.n0,p.n1,p.n2,p.n3,p.r0,p.r1,p.r2,p.r3,p.r4,.bool s.many,p.bv,.int .i64 s.wo,p.kv,.map (some p.sm),.map (some p.dm)]
abbrev csK (b:Nat)(p:CP)(s:Cs):List Rs:=
 [.blk b (csC p s) 90,.some5 p.kv s.k,.row p.bv 87 1 s.env.length (p.em.reverse.map λ m=>.map (some m)),.mp zTy VTy p.sm s.n s.st,.mp zMe VMe p.dm s.n s.de,.el TyE [p.r0,p.r1,p.r2,p.r3,p.r4] s.res,.pure (CInv p s)]
def Rs.cs (b:Nat)(p:CP)(s:Cs):Rs:=.all (csK b p s++envR s.n p.em s.env)
theorem Fr.csOpen {p : CP} {s : Cs} (h:Fr B w (.cs b p s::L)):Fr B w (csK b p s++(envR s.n p.em s.env++L)):=by
 have:=h.opn;rwa [List.append_assoc] at this
theorem Fr.csShut {p : CP} {s : Cs} (h:Fr B w (csK b p s++(envR s.n p.em s.env++L))):Fr B w (.cs b p s::L):=by
 rw[← List.append_assoc] at h;exact h.cls
theorem Fr.pureAt (h:Fr B w L) (i:Nat) {P : Prop} (hi:L[i]?=some (.pure P)):P:=by obtain⟨H,h,-⟩:=h.get hi;exact h
theorem Fr.csInv {p : CP} {s : Cs} (h:Fr B w (.cs b p s::L)):CInv p s:=h.csOpen.pureAt 6 rfl
section
variable {α : Type} {E : El α}
theorem fD {l : List α} (h:(Rs.els E (.slice a n c) e z l).ok H w) (hl:l≠[]):
  ∃(g:Nat) (css:List (List Value)),a=some ⟨g,0,none⟩∧n=l.length∧css.length=l.length∧(∀x,x∈css→x.length=z)∧w.ownsRow 0 e z (.slice (some ⟨g,0,none⟩) n c) n css.flatten∧∀j (hj:j<l.length) (hj':j<css.length),E.p H css[j] l[j]:=by
 obtain⟨css,h1,hz,h2,h3⟩:=h;rcases h2 with⟨h4,(⟨-,h5⟩|⟨g,cap,cur,h5,h6⟩)⟩
 ·exact absurd (List.eq_nil_of_length_eq_zero h5) hl
 cases h5;exact⟨g,css,rfl,rfl,h1,hz,⟨h4,Or.inr ⟨g,_,cur,rfl,h6⟩⟩,h3⟩
theorem Fr.elsGet (h:Fr B w L) (i:Nat) {l : List α} (hi:L[i]?=some (.els E (.slice a n c) e z l)) (j:Nat) (hj:j<l.length):
  ∃g,a=some ⟨g,0,none⟩∧n=l.length∧(∀o,w.frozen? ⟨g,o,none⟩=false)∧∃d:List Value,d.length=z∧(∀k,k<z→w.cell? ⟨g,j*z+k,none⟩=d[k]?)∧Fr B w (.el E d l[j]::L):=by
 obtain⟨H,h⟩:=h;obtain⟨g,css,rfl,rfl,h1,h2,h4,h5⟩:=fD (h.ok _ (List.mem_of_getElem? hi)) (λ e=>by rw[e] at hj;simp at hj);have hj':j<css.length:=by omega
 have hfl:=flat_len h2;refine⟨g,rfl,rfl,λ o=>h4.frozenAt o,css[j],h2 _ (List.getElem_mem hj'),λ k hk=>?_,H,h.free (r:=.el E css[j] l[j]) (h5 j hj hj') λ q hq=>hq⟩;rw[h4.cellAt _ (by calc j*z+k<j*z+z:=by omega
  _=(j+1)*z:=(Nat.succ_mul j z).symm
  _≤l.length*z:=Nat.mul_le_mul_right z hj),fQ h2 j hj' k hk]
theorem flat_set {z:Nat}:∀{css:List (List Value)} (hz:∀c,c∈css→c.length=z) (j:Nat) (hj:j<css.length) (d:List Value) (i:Nat) (hi:i<z) (hd:css[j]=d) (v:Value),css.flatten.set (j*z+i) v=(css.set j (d.set i v)).flatten
 | [],_,j,hj,_,_,_,_,_=>by simp at hj
 | c::css,hz,0,_,d,i,hi,hd,v=>by
  have h0:=hz c (List.mem_cons_self ..);simp only[List.getElem_cons_zero] at hd;subst hd;simp only[List.flatten_cons,List.set_cons_zero,Nat.zero_mul,Nat.zero_add];rw[List.set_append_left _ _ (by omega)]
 | c::css,hz,j+1,hj,d,i,hi,hd,v=>by
  have h0:=hz c (List.mem_cons_self ..);simp only[List.getElem_cons_succ] at hd;simp only[List.flatten_cons,List.set_cons_succ];rw[List.set_append_right _ _ (by rw[h0,Nat.succ_mul];omega),h0,show (j+1)*z+i - z=j*z+i by rw[Nat.succ_mul];omega,flat_set (λ x hx=>hz x (List.mem_cons_of_mem _ hx)) j (by simpa using hj) d i hi hd v]
theorem gD (h:w.ownsRow 0 e z (.slice (some ⟨g,0,none⟩) n c) n css.flatten) (hz:∀c,c∈css→c.length=z) (j:Nat) (hj:j<css.length) (i:Nat) (hi:i<z) (v:Value):
  (w.setCell ⟨g,j*z+i,none⟩ v).ownsRow 0 e z (.slice (some ⟨g,0,none⟩) n c) n (css.set j (css[j].set i v)).flatten∧w.grownBy (w.setCell ⟨g,j*z+i,none⟩ v) (some g):=by
 rw[← flat_set hz j hj _ i hi rfl v];exact h.stored _ v
theorem gC (hz:∀c,c∈css→c.length=z) (j:Nat) (d:List Value) (hd:d.length=z):∀c,c∈css.set j d→c.length=z:=λ c hc=>by
 rcases List.mem_or_eq_of_mem_set hc with h|rfl
 ·exact hz c h
 exact hd
section
variable (h:Fr B w L) (i:Nat) {l : List α} (hi:L[i]?=some (.els E (.slice (some ⟨g,0,none⟩) n c) e 5 l)) (j:Nat) (hj:j<l.length)
include h hi hj
theorem Fr.put5 {y0 y1 y2 y3 y4 : Value} {x : α} (m:Nat) (hm:L[m]?=some (.el E [y0,y1,y2,y3,y4] x)) {o : Nat} (ho:o=j*5) (h1:o1=o+1) (h2:o2=o+2) (h3:o3=o+3) (h4:o4=o+4):
  Fr B (((((w.setCell ⟨g,o,none⟩ y0).setCell ⟨g,o1,none⟩ y1).setCell ⟨g,o2,none⟩ y2).setCell ⟨g,o3,none⟩ y3).setCell ⟨g,o4,none⟩ y4) (L.set i (.els E (.slice (some ⟨g,0,none⟩) n c) e 5 (l.set j x))):=by
 subst h1 h2 h3 h4 ho;obtain⟨H,h⟩:=h;have hmm:=List.mem_of_getElem? hi;have hx:E.p H [y0,y1,y2,y3,y4] x:=h.ok _ (List.mem_of_getElem? hm);obtain⟨g',css,e1,hn,k1,k2,k4,k5⟩:=fD (h.ok _ hmm) (λ e=>by rw[e] at hj;simp at hj);cases e1;obtain⟨W5,hW⟩:∃W5,W5=(((((w.setCell ⟨g,j*5,none⟩ y0).setCell ⟨g,j*5+1,none⟩ y1).setCell ⟨g,j*5+2,none⟩ y2).setCell ⟨g,j*5+3,none⟩ y3).setCell ⟨g,j*5+4,none⟩ y4):=⟨_,rfl⟩
 have hother:∀q,q≠g→W5.heap[q]?=w.heap[q]?:=λ q hq=>by
  rw[hW,heap_setCell_other _ _ _ _ hq,heap_setCell_other _ _ _ _ hq,heap_setCell_other _ _ _ _ hq,heap_setCell_other _ _ _ _ hq,heap_setCell_other _ _ _ _ hq]
 have hg:=(h.lo _ hmm g rfl).1;have hj':j<css.length:=by omega
 obtain⟨d0,d1,d2,d3,d4,hd⟩:∃d0 d1 d2 d3 d4,css[j]=[d0,d1,d2,d3,d4]:=by
  have:=k2 _ (List.getElem_mem hj');match css[j],this with
  | [d0,d1,d2,d3,d4],_=>exact⟨d0,d1,d2,d3,d4,rfl⟩
 have s5:W5.ownsRow 0 e 5 (.slice (some ⟨g,0,none⟩) n c) n (css.set j [y0,y1,y2,y3,y4]).flatten∧(W5.os=w.os∧W5.tape=w.tape∧W5.output=w.output∧w.heap.size≤W5.heap.size):=by
  obtain⟨s0,t0⟩:=gD k4 k2 j hj' 0 (by omega) y0;simp only[hd,List.set_cons_zero,Nat.add_zero] at s0 t0;obtain⟨s1,t1⟩:=gD s0 (gC k2 j [y0,d1,d2,d3,d4] rfl) j (by simpa using hj') 1 (by omega) y1;simp only[List.getElem_set_self,List.set_set,List.set_cons_zero,List.set_cons_succ] at s1;obtain⟨s2,t2⟩:=gD s1 (gC k2 j [y0,y1,d2,d3,d4] rfl) j (by simpa using hj') 2 (by omega) y2;simp only[List.getElem_set_self,List.set_set,List.set_cons_zero,List.set_cons_succ] at s2;obtain⟨s3,t3⟩:=gD s2 (gC k2 j [y0,y1,y2,d3,d4] rfl) j (by simpa using hj') 3 (by omega) y3;simp only[List.getElem_set_self,List.set_set,List.set_cons_zero,List.set_cons_succ] at s3;obtain⟨s4,t4⟩:=gD s3 (gC k2 j [y0,y1,y2,y3,d4] rfl) j (by simpa using hj') 4 (by omega) y4;simp only[List.getElem_set_self,List.set_set,List.set_cons_zero,List.set_cons_succ] at s4;rw[hW];exact⟨s4,t4.os.trans (t3.os.trans (t2.os.trans (t1.os.trans t0.os))),t4.tape.trans (t3.tape.trans (t2.tape.trans (t1.tape.trans t0.tape))),t4.output.trans (t3.output.trans (t2.output.trans (t1.output.trans t0.output))),Nat.le_trans t0.size (Nat.le_trans t1.size (Nat.le_trans t2.size (Nat.le_trans t3.size t4.size)))⟩
 obtain⟨s5,f1,f2,f3,f4⟩:=s5;rw[← hW];clear hW;refine⟨H,h.turn i hi ⟨f1.trans h.below.os,f2.trans h.below.tape,f3.trans h.below.output,Nat.le_trans h.below.size f4,λ k hk=>(hother k (by omega)).trans (h.below.block k hk)⟩ f4 (λ q hq hne=>hother q λ e=>hne (by rw[e];rfl)) ?_ λ q hq=>Or.inl hq⟩;refine⟨css.set j [y0,y1,y2,y3,y4],by simpa using k1,gC k2 j _ rfl,?_,λ k hk hk'=>?_⟩
 ·rw[List.length_set,← hn];exact s5
 by_cases e:j=k
 ·subst e;simp only[List.getElem_set_self];exact hx
 rw[List.getElem_set_ne e,List.getElem_set_ne e];exact k5 k (by simpa using hk) (by simpa using hk')
theorem Fr.at5 (o:Nat) (ho:o=j*5) (h1:o1=o+1) (h2:o2=o+2) (h3:o3=o+3) (h4:o4=o+4):
  (∀o,w.frozen? ⟨g,o,none⟩=false)∧∃d0 d1 d2 d3 d4:Value,w.cell? ⟨g,o,none⟩=some d0∧w.cell? ⟨g,o1,none⟩=some d1∧w.cell? ⟨g,o2,none⟩=some d2∧w.cell? ⟨g,o3,none⟩=some d3∧w.cell? ⟨g,o4,none⟩=some d4∧Fr B w (.el E [d0,d1,d2,d3,d4] l[j]::L):=by
 subst ho h1 h2 h3 h4;obtain⟨g',e1,-,hf,d,hd,hc,hF⟩:=h.elsGet i hi j hj;cases e1;match d,hd with
 | [d0,d1,d2,d3,d4],_=>exact⟨hf,d0,d1,d2,d3,d4,hc 0 (by omega),hc 1 (by omega),hc 2 (by omega),hc 3 (by omega),hc 4 (by omega),hF⟩
end
theorem units_set (n j:Nat):(List.replicate n ()).set j ()=List.replicate n ():=by
 apply List.ext_getElem
 ·simp
 intro i h1 h2;rfl
theorem units_snoc (n:Nat):List.replicate n ()++[()]=List.replicate (n+1) ():=by rw[List.replicate_succ']
end
variable {p : CP} {s : Cs}
def CP.at (p:CP)(v:Value):CP:={ p with kv:=v }
theorem Fr.csCell (h:Fr B w (.cs b p s::L)):∀o,w.cell? ⟨b,o,none⟩=(csC p s)[o]?:=h.csOpen.cell 0 rfl
theorem Fr.csFrz (h:Fr B w (.cs b p s::L)):∀o,w.frozen? ⟨b,o,none⟩=false:=h.csOpen.frz 0 rfl
section
variable (h:Fr B w L)
include h
theorem Fr.anyEl (cs:List Value):Fr B w (.el AnyE cs ()::L):=h.sure ⟨λ_=>True,λ_ _ _ _=>trivial⟩ λ_=>trivial
theorem Fr.tyVe (i:Nat) {t : T.Ty} (hi:L[i]?=some (.el TyE [x0,x1,x2,x3,x4] t)):Fr B w (.ve VTy (.agg #[x0,x1,x2,x3,x4]) t::L):=
 h.also hi ⟨λ H=>VTy.p H _ t,λ H H' h hl=>VTy.up H H' _ _ h hl⟩ λ H w hr _=>⟨x0,x1,x2,x3,x4,rfl,hr⟩
theorem Fr.meVe (i:Nat) {t : T.Ty} (hi:L[i]?=some (.el TyE [x0,x1,x2,x3,x4] t)) (m:Bool):Fr B w (.ve VMe (.agg #[x0,x1,x2,x3,x4,.bool m]) (t,m)::L):=
 h.also hi ⟨λ H=>VMe.p H _ (t,m),λ H H' h hl=>VMe.up H H' _ _ h hl⟩ λ H w hr _=>⟨x0,x1,x2,x3,x4,rfl,hr⟩
theorem Fr.veTy (i:Nat) {t : T.Ty} (hi:L[i]?=some (.ve VTy v t)):∃x0 x1 x2 x3 x4,v=.agg #[x0,x1,x2,x3,x4]∧Fr B w (.el TyE [x0,x1,x2,x3,x4] t::L):=by
 obtain⟨H,h⟩:=h;obtain⟨x0,x1,x2,x3,x4,e,h2⟩:VTy.p H v t:=h.ok _ (List.mem_of_getElem? hi);exact⟨x0,x1,x2,x3,x4,e,H,h.free (r:=.el TyE [x0,x1,x2,x3,x4] t) h2 λ q hq=>hq⟩
theorem Fr.veMe (i:Nat) {t : T.Ty × Bool} (hi:L[i]?=some (.ve VMe v t)):∃x0 x1 x2 x3 x4,v=.agg #[x0,x1,x2,x3,x4,.bool t.2]∧Fr B w (.el TyE [x0,x1,x2,x3,x4] t.1::L):=by
 obtain⟨H,h⟩:=h;obtain⟨x0,x1,x2,x3,x4,e,h2⟩:VMe.p H v t:=h.ok _ (List.mem_of_getElem? hi);exact⟨x0,x1,x2,x3,x4,e,H,h.free (r:=.el TyE [x0,x1,x2,x3,x4] t.1) h2 λ q hq=>hq⟩
theorem Fr.tyForm (i:Nat) {cs : List Value} {t : T.Ty} (hi:L[i]?=some (.el TyE cs t)):∃nm a c pa pc,cs=tyc (tyk t) nm a (tnn t) c pa (tpn t) pc (tmy t)∧tnn t≤c∧tpn t≤pc∧c≤9223372036854775807∧pc≤9223372036854775807:=by
 have h1:=h.tyAt i hi;cases t with
 | leaf=>exact (T.TyV_leaf h1).elim
 | mk kind name nn names pn parts many=>
  unfold T.TyV at h1;obtain⟨na,nc,pa,pc,e,h2,h3,k1,k2,k3,k4,k5,k6,k7,k8,k9,k10⟩:=h1;have e':cs.toArray=#[.int .i64 kind,.string name,.slice na nn nc,.slice pa pn pc,.bool many]:=by cases e;rfl
  refine⟨name,na,nc,pa,pc,?_,k7,k9,k8,k10⟩;have:=congrArg Array.toList e';simp at this;exact this
theorem Fr.tyBare (k:Int) (hk:0≤k∧k≤4):Fr B w (.el TyE (tyc k eB none 0 0 none 0 0 false) (mkTy k eB [] [] false)::L):=h.tyBare0 k hk
end
theorem may_tI:may tI=true:=by decide
theorem may_tL:may tL=true:=by decide
theorem fZ:(prog.info? 83).map (λ i=>(i.zero,i.size,i.bytes))=some (some (.agg #[.int .i64 0,.string ⟨#[]⟩,.slice none 0 0,.slice none 0 0,.bool false]),5,80):=by kernel_rfl
abbrev tyz:Array Value:=#[.int .i64 0,.string ⟨#[]⟩,.slice none 0 0,.slice none 0 0,.bool false]
theorem Fr.box1 {r : Rs} (h:Fr B w (r::L)) (hq:w.heap.size=q) (cs:Array Value) (T:TypeId):Fr B (w.alloc (.cells cs T)) (r::.blk q cs T::L):=(h.alloc hq _ _).swap
def csX (p:CP)(s:Cs)(L:List Rs):List Rs:=.row p.bv 87 1 s.env.length (p.em.reverse.map λ m=>.map (some m))::.mp zTy VTy p.sm s.n s.st::.mp zMe VMe p.dm s.n s.de::.el TyE [p.r0,p.r1,p.r2,p.r3,p.r4] s.res::.pure (CInv p s)::(envR s.n p.em s.env++L)
theorem Fr.csGrown (h:Fr B w (.blk b #[p.n0,p.n1,p.n2,p.n3,p.r0,p.r1,p.r2,p.r3,p.r4,.bool s.many,p.bv,.int .i64 s.wo,v,.map (some p.sm),.map (some p.dm)] 90::.some5 v (s.k+1)::csX p s L)) (hk:s.k<16000):Fr B w (.cs b (p.at v) { s with k:=s.k+1 }::L):=by
 have hI:CInv p s:=h.pureAt 6 rfl;have h2:=h.same 6 rfl (r':=.pure (CInv (p.at v) { s with k:=s.k+1 })) (λ H _=>⟨hI.len,Nat.le_succ_of_le hI.n,hk,hI.st,hI.de,hI.env,hI.wo,Nat.le_succ_of_le hI.el⟩) λ q hq=>hq;exact h2.csShut
theorem bA (h:Fr B w (.cs b p s::L)) (hk:s.k<16000):Calls prog 48 #[ptr b] w λ e w'=>e=.returned (.int .i64 s.k)∧∃v,Fr B w' (.cs b (p.at v) { s with k:=s.k+1 }::L):=by
 have h1:Fr B w (.blk b (csC p s) 90::.some5 p.kv s.k::csX p s L):=h.csOpen;obtain⟨ka,kc,hkv,-,-⟩:=h1.elsForm 1 rfl;rw[List.length_replicate] at hkv;have HF:=ah h1;have hk':s.k≤16000:=by omega
 have HEND:Hid (∀w' v,Fr B w' (.blk b #[p.n0,p.n1,p.n2,p.n3,p.r0,p.r1,p.r2,p.r3,p.r4,.bool s.many,p.bv,.int .i64 s.wo,v,.map (some p.sm),.map (some p.dm)] 90::.some5 v (s.k+1)::csX p s L)→∃v,Fr B w' (.cs b (p.at v) { s with k:=s.k+1 }::L)):=λ w' v h=>⟨v,h.csGrown hk⟩
 clear h h1 hk;unfold csC at HF;rw[hkv] at HF;clear hkv;generalize ({ s with k:=s.k+1 }:Cs)=s' at *;generalize csX p s L=X at *;generalize s.k=k at *;generalize p.n0=x0 at *;generalize p.n1=x1 at *;generalize p.n2=x2 at *;generalize p.n3=x3 at *;generalize p.r0=x4 at *;generalize p.r1=x5 at *;generalize p.r2=x6 at *;generalize p.r3=x7 at *;generalize p.r4=x8 at *;generalize (Value.bool s.many)=x9 at *;generalize p.bv=x10 at *;generalize (Value.int .i64 s.wo)=x11 at *;generalize (Value.map (some p.sm))=x13 at *;generalize (Value.map (some p.dm))=x14 at *;go_enter func48,ntmps48;go_wp2_with fail;go_wp2;refine regK [8,9,10,11,12] HF (λ w h=>(h.cell 0 rfl)) (λ wd1 HF hC=>?_);refine tq4 0 1 2 3 ?_;refine tq2 4 5 ?_;refine rq 6 λ K hK=>?_;go_simp;replace HF:=ah (HF.alloc (q:=wd1.heap.size) rfl tyz 83);refine uq hK (HF.cell 1 rfl) λ hC=>?_;refine rq 7 λ K hK=>?_;replace HF:=ah (HF.anyEl tyz.toList |>.swap);refine fR (by rfl) (Fr.elAppN fZ underlying81 rfl (by decide) (by decide) HF 2 rfl k (k+1) (by simp) rfl hk' 0 rfl _ _ rfl rfl (by rfl) (by rfl) rfl λ g cap w3 hF=>?_);rw[units_snoc] at hF;replace HF:=ah hF;clear hF;refine uq hK (HF.cell 1 rfl) λ hC=>?_;try simp only[qq]
 have hkk:(k:Int)<(k:Int)+1:=by omega
 refine tqP 8 ?_;refine tqP 10 ?_;refine tqP 11 ?_;refine rq2b 9 12 (λ K hK=>?_) λ K hK=>?_
 ·obtain⟨f_g,d0,d1,d2,d3,d4,e0,e1,e2,e3,e4,-⟩:=HF.at5 2 rfl k (by simp) (o1:=k*5+1) (o2:=k*5+2) (o3:=k*5+3) (o4:=k*5+4) (k*5) rfl rfl rfl rfl rfl;have hF:=(HF.put5 2 rfl k (by simp) (y0:=.int .i64 0) (y1:=.string ⟨#[]⟩) (y2:=.slice none 0 0) (y3:=.slice none 0 0) (y4:=.bool false) 0 rfl (o1:=k*5+1) (o2:=k*5+2) (o3:=k*5+3) (o4:=k*5+4) (o:=k*5) rfl rfl rfl rfl rfl)
  rw[units_set] at hF;replace HF:=ah hF;clear hF;go_simp;clear e0 e1 e2 e3 e4 f_g;refine ub hK ?_;refine rqb 12 λ K hK=>?_;have c_b:=HF.cell 1 rfl;have f_b:=HF.frz 1 rfl;replace HF:=ah (HF.set 1 rfl 12 (.slice (some ⟨g,0,none⟩) (k+1) cap));go_simp;clear c_b f_b;refine ub hK ?_;refine dq ?_;have c_b:=HF.cell 1 rfl;go_wp2;go_ret
  exact⟨by simp,HEND _ (.slice (some ⟨g,0,none⟩) (k+1) cap) HF.tail⟩
 have c_b:=HF.cell 1 rfl;have f_b:=HF.frz 1 rfl;replace HF:=ah (HF.set 1 rfl 12 (.slice (some ⟨g,0,none⟩) (k+1) cap));go_simp;clear c_b f_b;refine ub hK ?_;refine rqb 9 λ K hK=>?_;obtain⟨f_g,d0,d1,d2,d3,d4,e0,e1,e2,e3,e4,-⟩:=HF.at5 2 rfl k (by simp) (o1:=k*5+1) (o2:=k*5+2) (o3:=k*5+3) (o4:=k*5+4) (k*5) rfl rfl rfl rfl rfl;have hF:=(HF.put5 2 rfl k (by simp) (y0:=.int .i64 0) (y1:=.string ⟨#[]⟩) (y2:=.slice none 0 0) (y3:=.slice none 0 0) (y4:=.bool false) 0 rfl (o1:=k*5+1) (o2:=k*5+2) (o3:=k*5+3) (o4:=k*5+4) (o:=k*5) rfl rfl rfl rfl rfl)
 rw[units_set] at hF;replace HF:=ah hF;clear hF;go_simp;clear e0 e1 e2 e3 e4 f_g;refine ub hK ?_;refine dq ?_;have c_b:=HF.cell 1 rfl;go_wp2;go_ret
 exact⟨by simp,HEND _ (.slice (some ⟨g,0,none⟩) (k+1) cap) HF.tail⟩
abbrev upF (c:Int)(a:Nat):Ending:=.panicked [{ v:=.iface 54 (.agg #[.int .i64 c,.int .i64 a]),recovered:=false }]
theorem askC_any (c:Int) (a:Nat) (q:Bool) (w:World):Calls prog 69 #[.bool q,.int .i64 c,.int .i64 a] w λ e w'=>e=(if q=true then .returned (.tuple #[]) else upF c a)∧w'=w:=by
 cases q;all_goals
  go_enter func69,ntmps69;go_wp2_with fail;first
  | (go_end0;exact⟨rfl,rfl⟩)
  | exact⟨rfl,rfl,rfl⟩
theorem eT {t : T.Ty} (h:Fr B w L) (i:Nat) (hi:L[i]?=some (.el TyE [x0,x1,x2,x3,x4] t)):Calls prog 73 #[.agg #[x0,x1,x2,x3,x4]] w λ e w'=>e=.returned (.bool (cA t))∧Fr B w' L:=by
 obtain⟨nm,a,c,pa,pc,e,-⟩:=h.tyForm i hi;injection e with e0 e
 injection e with e1 e
 injection e with e2 e
 injection e with e3 e
 injection e with e4 e
 subst e0 e1 e2 e3 e4;have HF:=ah ((h.alloc (q:=w.heap.size) rfl #[.int .i64 (tyk t),.string nm,.slice a (tnn t) c,.slice pa (tpn t) pc,.bool (tmy t)] 83).tail);have HT:Hid (cA t=(decide (tyk t=1) || decide (tyk t=2))):=rfl;clear h hi;generalize cA t=q at *;generalize tyk t=k at *;by_cases h1:k=1
 ·subst h1;replace HT:=HT;simp at HT;subst HT;go_enter func73,ntmps73;go_wp2;go_ret
  exact⟨rfl,HF⟩
 by_cases h2:k=2
 ·subst h2;replace HT:=HT;simp at HT;subst HT;go_enter func73,ntmps73;go_wp2;go_ret
  exact⟨rfl,HF⟩
 go_enter func73,ntmps73;go_wp2;go_ret
 exact⟨by rw[HT.out];rfl,HF⟩
end Go.Proofs.YtdnhbedbpbgeeaaGreatDoor.K
