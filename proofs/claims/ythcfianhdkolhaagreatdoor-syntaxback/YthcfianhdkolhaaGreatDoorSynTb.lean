/- SynIsV SynCnt SynTb -/
import Derived.Test.YthcfianhdkolhaaGreatDoorSynIsU
namespace Go.Proofs.YthcfianhdkolhaaGreatDoor.S
set_option linter.unusedVariables false
set_option linter.unusedSimpArgs false
theorem txt_ok {s:List UInt8} (h:nameB s=true):txtB true s=true:=by simpa [txtB] using h
theorem kid_ok {kind:Int} {n i:Nat} {x:Nd} {c:Int} (hw:wantN kind n i=(c,0)) (h1:clsN x.kind=c) (h2:isN x false=true):kidB kind n i x.kind=true∧isN x (freeB kind n i)=true:=by
 unfold kidB freeB
 rw [hw]
 refine ⟨decide_eq_true ⟨h1,fun h=>absurd (show (0:Int)<0 from h) (by decide),fun h=>absurd (show (0:Int)<0 from h) (by decide)⟩,h2⟩
theorem kid_okK {kind:Int} {n i:Nat} {x:Nd} {c:Int} {k:Nat} (hw:wantN kind n i=(c,(k:Int))) (hc:clsN k=c) (h1:x.kind=k) (h2:isN x false=true):kidB kind n i x.kind=true∧isN x (freeB kind n i)=true:=by
 unfold kidB freeB
 rw [hw]
 refine ⟨decide_eq_true ⟨by rw [h1];exact hc,fun h=>h1,fun h=>absurd h (by show ¬ (k:Int)<0;omega)⟩,?_⟩
 have:decide ((k:Int)<0)=false:=by simp
 show isN x (decide ((k:Int)<0))=true
 rw [this]
 exact h2
theorem mk_is {kind:Int} {text:List UInt8} {num:Int} {kids:List Nd} {free t:Bool} {mx least most:Int} (hs:shpN kind=some (t,mx,least,most)) (h1:least≤kids.length∧(0≤most→(kids.length:Int)≤most)) (h2:txtB t text=true) (h3:0≤absN free num∧(0≤mx→absN free num≤mx)∧(kind=21→absN free num≤2147483647))
  (h4:(kind=32→opSign num≠[])∧(kind=15→baseN false (kid0 kids)=23)∧(kind=20→(kid0 kids).kind=25∧baseN true (kid0 kids)=23)) (h5:∀ j (hj:j<kids.length),kidB kind kids.length j kids[j].kind=true∧isN kids[j] (freeB kind kids.length j)=true):isN (.mk kind text num kids) free=true:=
 (isN_iff _ _ _ _ _).2 ⟨(loc_iff hs).2 ⟨h1,h2,h3,h4.1,h4.2.1,h4.2.2⟩,h5⟩
theorem all_one {p:(j:Nat)→Nd→Prop} {a:Nd} (h:p 0 a):∀ j (hj:j<[a].length),p j [a][j]:=fun j hj=>by
 have:j=0:=by simp at hj;omega
 subst this
 exact h
theorem all_two {p:(j:Nat)→Nd→Prop} {a b:Nd} (h:p 0 a) (h1:p 1 b):∀ j (hj:j<[a,b].length),p j [a,b][j]:=fun j hj=>by
 have:j=0∨j=1:=by simp at hj;omega
 rcases this with rfl|rfl
 ·exact h
 ·exact h1
theorem all_three {p:(j:Nat)→Nd→Prop} {a b c:Nd} (h:p 0 a) (h1:p 1 b) (h2:p 2 c):∀ j (hj:j<[a,b,c].length),p j [a,b,c][j]:=fun j hj=>by
 have:j=0∨j=1∨j=2:=by simp at hj;omega
 rcases this with rfl|rfl|rfl
 ·exact h
 ·exact h1
 ·exact h2
theorem abs_z {n:Int} {k kd:Int} (h0:0≤n) (h1:n≤k) (hk:¬ kd=21):0≤absN false n∧(0≤k→absN false n≤k)∧(kd=21→absN false n≤2147483647):=by
 rw [abs_f]
 exact ⟨h0,fun _=>h1,fun e=>absurd e hk⟩
theorem abs_0 {kd:Int} (hk:¬ kd=21):0≤absN false 0∧((0:Int)≤0→absN false 0≤0)∧(kd=21→absN false 0≤2147483647):=abs_z (by decide) (by decide) hk
theorem b2n_le (d:Bool):0≤b2n d∧b2n d≤1:=by cases d<;>decide
theorem ty_is {n:Nd} (h:IsTy n):clsN n.kind=2∧isN n false=true:=by
 induction h with
 | int=>exact ⟨rfl,mk_is (t:=false) (mx:=0) (least:=0) (most:=0) (by rfl) ⟨by simp,fun _=>by simp⟩ rfl (abs_0 (by decide)) ⟨fun e=>absurd e (by decide),fun e=>absurd e (by decide),fun e=>absurd e (by decide)⟩ (fun j hj=>absurd hj (by simp))⟩
 | long=>exact ⟨rfl,mk_is (t:=false) (mx:=0) (least:=0) (most:=0) (by rfl) ⟨by simp,fun _=>by simp⟩ rfl (abs_0 (by decide)) ⟨fun e=>absurd e (by decide),fun e=>absurd e (by decide),fun e=>absurd e (by decide)⟩ (fun j hj=>absurd hj (by simp))⟩
 | named s hs=>exact ⟨rfl,mk_is (t:=true) (mx:=0) (least:=0) (most:=0) (by rfl) ⟨by simp,fun _=>by simp⟩ (txt_ok hs) (abs_0 (by decide)) ⟨fun e=>absurd e (by decide),fun e=>absurd e (by decide),fun e=>absurd e (by decide)⟩ (fun j hj=>absurd hj (by simp))⟩
 | fn l d t hl ht ihl iht=>
  refine ⟨rfl,mk_is (t:=false) (mx:=1) (least:=1) (most:=-1) (by rfl) ⟨by simp;omega,fun e=>absurd e (by decide)⟩ rfl (abs_z (b2n_le d).1 (b2n_le d).2 (by decide)) ⟨fun e=>absurd e (by decide),fun e=>absurd e (by decide),fun e=>absurd e (by decide)⟩ ?_⟩
  intro j hj
  have hm:(l++[t])[j]∈l++[t]:=List.getElem_mem hj
  have hx:clsN ((l++[t])[j]).kind=2∧isN ((l++[t])[j]) false=true:=by
   rcases List.mem_append.1 hm with h|h
   ·exact ihl _ h
   ·rw [List.mem_singleton.1 h];exact iht
  exact kid_ok (c:=2) (by rfl) hx.1 hx.2
theorem ex_is {n:Nd} (h:IsEx n):clsN n.kind=4∧isN n false=true:=by
 induction h with
 | num v h0 h1=>exact ⟨rfl,mk_is (t:=false) (mx:=-1) (least:=0) (most:=0) (by rfl) ⟨by simp,fun _=>by simp⟩ rfl (by rw [abs_f];exact ⟨h0,fun e=>absurd e (by decide),fun _=>h1⟩) ⟨fun e=>absurd e (by decide),fun e=>absurd e (by decide),fun e=>absurd e (by decide)⟩ (fun j hj=>absurd hj (by simp))⟩
 | long v h0 h1=>exact ⟨rfl,mk_is (t:=false) (mx:=-1) (least:=0) (most:=0) (by rfl) ⟨by simp,fun _=>by simp⟩ rfl (by rw [abs_f];exact ⟨h0,fun e=>absurd e (by decide),fun e=>absurd e (by decide)⟩) ⟨fun e=>absurd e (by decide),fun e=>absurd e (by decide),fun e=>absurd e (by decide)⟩ (fun j hj=>absurd hj (by simp))⟩
 | name s hs=>exact ⟨rfl,mk_is (t:=true) (mx:=0) (least:=0) (most:=0) (by rfl) ⟨by simp,fun _=>by simp⟩ (txt_ok hs) (abs_0 (by decide)) ⟨fun e=>absurd e (by decide),fun e=>absurd e (by decide),fun e=>absurd e (by decide)⟩ (fun j hj=>absurd hj (by simp))⟩
 | dot s x hs hx ih=>exact ⟨rfl,mk_is (t:=true) (mx:=0) (least:=1) (most:=1) (by rfl) ⟨by simp,fun _=>by simp⟩ (txt_ok hs) (abs_0 (by decide)) ⟨fun e=>absurd e (by decide),fun e=>absurd e (by decide),fun e=>absurd e (by decide)⟩ (all_one (p:=fun j x=>kidB _ _ j x.kind=true∧isN x (freeB _ _ j)=true) (kid_ok (c:=4) (by rfl) ih.1 ih.2))⟩
 | call x l hx hl ihx ihl=>
  have hA:∀ y,y∈x::l→clsN y.kind=4∧isN y false=true:=fun y hy=>by
   rcases List.mem_cons.1 hy with rfl|h
   ·exact ihx
   ·exact ihl y h
  exact ⟨rfl,mk_is (t:=false) (mx:=0) (least:=1) (most:=-1) (by rfl) ⟨by simp;omega,fun e=>absurd e (by decide)⟩ rfl (abs_0 (by decide)) ⟨fun e=>absurd e (by decide),fun e=>absurd e (by decide),fun e=>absurd e (by decide)⟩ (fun j hj=>by
   have hx:=hA _ (List.getElem_mem hj)
   exact kid_ok (c:=4) (by rfl) hx.1 hx.2)⟩
 | addr s hs=>exact ⟨rfl,mk_is (t:=true) (mx:=0) (least:=0) (most:=0) (by rfl) ⟨by simp,fun _=>by simp⟩ (txt_ok hs) (abs_0 (by decide)) ⟨fun e=>absurd e (by decide),fun e=>absurd e (by decide),fun e=>absurd e (by decide)⟩ (fun j hj=>absurd hj (by simp))⟩
 | make s l hs hl ihl=>
  have hA:∀ y,y∈l→clsN y.kind=4∧isN y false=true:=ihl
  exact ⟨rfl,mk_is (t:=true) (mx:=0) (least:=0) (most:=-1) (by rfl) ⟨by simp,fun e=>absurd e (by decide)⟩ (txt_ok hs) (abs_0 (by decide)) ⟨fun e=>absurd e (by decide),fun e=>absurd e (by decide),fun e=>absurd e (by decide)⟩ (fun j hj=>by
   have hx:=hA _ (List.getElem_mem hj)
   exact kid_ok (c:=4) (by rfl) hx.1 hx.2)⟩
 | neg x hx ih=>exact ⟨rfl,mk_is (t:=false) (mx:=0) (least:=1) (most:=1) (by rfl) ⟨by simp,fun _=>by simp⟩ rfl (abs_0 (by decide)) ⟨fun e=>absurd e (by decide),fun e=>absurd e (by decide),fun e=>absurd e (by decide)⟩ (all_one (p:=fun j x=>kidB _ _ j x.kind=true∧isN x (freeB _ _ j)=true) (kid_ok (c:=4) (by rfl) ih.1 ih.2))⟩
 | not x hx ih=>exact ⟨rfl,mk_is (t:=false) (mx:=0) (least:=1) (most:=1) (by rfl) ⟨by simp,fun _=>by simp⟩ rfl (abs_0 (by decide)) ⟨fun e=>absurd e (by decide),fun e=>absurd e (by decide),fun e=>absurd e (by decide)⟩ (all_one (p:=fun j x=>kidB _ _ j x.kind=true∧isN x (freeB _ _ j)=true) (kid_ok (c:=4) (by rfl) ih.1 ih.2))⟩
 | toInt x hx ih=>exact ⟨rfl,mk_is (t:=false) (mx:=0) (least:=1) (most:=1) (by rfl) ⟨by simp,fun _=>by simp⟩ rfl (abs_0 (by decide)) ⟨fun e=>absurd e (by decide),fun e=>absurd e (by decide),fun e=>absurd e (by decide)⟩ (all_one (p:=fun j x=>kidB _ _ j x.kind=true∧isN x (freeB _ _ j)=true) (kid_ok (c:=4) (by rfl) ih.1 ih.2))⟩
 | toLong x hx ih=>exact ⟨rfl,mk_is (t:=false) (mx:=0) (least:=1) (most:=1) (by rfl) ⟨by simp,fun _=>by simp⟩ rfl (abs_0 (by decide)) ⟨fun e=>absurd e (by decide),fun e=>absurd e (by decide),fun e=>absurd e (by decide)⟩ (all_one (p:=fun j x=>kidB _ _ j x.kind=true∧isN x (freeB _ _ j)=true) (kid_ok (c:=4) (by rfl) ih.1 ih.2))⟩
 | extra x hx ih=>exact ⟨rfl,mk_is (t:=false) (mx:=0) (least:=1) (most:=1) (by rfl) ⟨by simp,fun _=>by simp⟩ rfl (abs_0 (by decide)) ⟨fun e=>absurd e (by decide),fun e=>absurd e (by decide),fun e=>absurd e (by decide)⟩ (all_one (p:=fun j x=>kidB _ _ j x.kind=true∧isN x (freeB _ _ j)=true) (kid_ok (c:=4) (by rfl) ih.1 ih.2))⟩
 | op v a b hv ha hb iha ihb=>
  have hv2:0≤v∧v≤12:=by unfold isOp at hv;omega
  exact ⟨rfl,mk_is (t:=false) (mx:=12) (least:=2) (most:=2) (by rfl) ⟨by simp,fun _=>by simp⟩ rfl (abs_z hv2.1 hv2.2 (by decide)) ⟨fun _=>op_of.2 hv,fun e=>absurd e (by decide),fun e=>absurd e (by decide)⟩ (all_two (p:=fun j x=>kidB _ _ j x.kind=true∧isN x (freeB _ _ j)=true) (kid_ok (c:=4) (by rfl) iha.1 iha.2) (kid_ok (c:=4) (by rfl) ihb.1 ihb.2))⟩
 | count=>exact ⟨rfl,mk_is (t:=false) (mx:=0) (least:=0) (most:=0) (by rfl) ⟨by simp,fun _=>by simp⟩ rfl (abs_0 (by decide)) ⟨fun e=>absurd e (by decide),fun e=>absurd e (by decide),fun e=>absurd e (by decide)⟩ (fun j hj=>absurd hj (by simp))⟩
theorem bl_is {l:List Nd} (h:∀ y,y∈l→clsN y.kind=3∧isN y false=true):isN (.mk 13 [] 0 l) false=true:=
 mk_is (t:=false) (mx:=0) (least:=0) (most:=-1) (by rfl) ⟨by simp,fun e=>absurd e (by decide)⟩ rfl (abs_0 (by decide)) ⟨fun e=>absurd e (by decide),fun e=>absurd e (by decide),fun e=>absurd e (by decide)⟩ (fun j hj=>by
   have hx:=h _ (List.getElem_mem hj)
   exact kid_ok (c:=3) (by rfl) hx.1 hx.2)
theorem st_is {n:Nd} (h:IsSt n):clsN n.kind=3∧isN n false=true:=by
 induction h with
 | var s t x hs ht hx=>exact ⟨rfl,mk_is (t:=true) (mx:=0) (least:=2) (most:=2) (by rfl) ⟨by simp,fun _=>by simp⟩ (txt_ok hs) (abs_0 (by decide)) ⟨fun e=>absurd e (by decide),fun e=>absurd e (by decide),fun e=>absurd e (by decide)⟩ (all_two (p:=fun j x=>kidB _ _ j x.kind=true∧isN x (freeB _ _ j)=true) (kid_ok (c:=2) (by rfl) (ty_is ht).1 (ty_is ht).2) (kid_ok (c:=4) (by rfl) (ex_is hx).1 (ex_is hx).2))⟩
 | set p x hp hx=>exact ⟨rfl,mk_is (t:=false) (mx:=0) (least:=2) (most:=2) (by rfl) ⟨by simp,fun _=>by simp⟩ rfl (abs_0 (by decide)) ⟨fun e=>absurd e (by decide),fun _=>(pl_ex hp).2,fun e=>absurd e (by decide)⟩ (all_two (p:=fun j x=>kidB _ _ j x.kind=true∧isN x (freeB _ _ j)=true) (kid_ok (c:=4) (by rfl) (ex_is (pl_ex hp).1).1 (ex_is (pl_ex hp).1).2) (kid_ok (c:=4) (by rfl) (ex_is hx).1 (ex_is hx).2))⟩
 | if1 c l hc hl ih=>exact ⟨rfl,mk_is (t:=false) (mx:=0) (least:=2) (most:=3) (by rfl) ⟨by simp,fun _=>by simp⟩ rfl (abs_0 (by decide)) ⟨fun e=>absurd e (by decide),fun e=>absurd e (by decide),fun e=>absurd e (by decide)⟩ (all_two (p:=fun j x=>kidB _ _ j x.kind=true∧isN x (freeB _ _ j)=true) (kid_ok (c:=4) (by rfl) (ex_is hc).1 (ex_is hc).2) (kid_okK (c:=5) (k:=13) (by rfl) (by rfl) rfl (bl_is ih)))⟩
 | if2 c l m hc hl hm ih ihm=>exact ⟨rfl,mk_is (t:=false) (mx:=0) (least:=2) (most:=3) (by rfl) ⟨by simp,fun _=>by simp⟩ rfl (abs_0 (by decide)) ⟨fun e=>absurd e (by decide),fun e=>absurd e (by decide),fun e=>absurd e (by decide)⟩ (all_three (p:=fun j x=>kidB _ _ j x.kind=true∧isN x (freeB _ _ j)=true) (kid_ok (c:=4) (by rfl) (ex_is hc).1 (ex_is hc).2) (kid_okK (c:=5) (k:=13) (by rfl) (by rfl) rfl (bl_is ih)) (kid_okK (c:=5) (k:=13) (by rfl) (by rfl) rfl (bl_is ihm)))⟩
 | while1 c l hc hl ih=>exact ⟨rfl,mk_is (t:=false) (mx:=0) (least:=2) (most:=2) (by rfl) ⟨by simp,fun _=>by simp⟩ rfl (abs_0 (by decide)) ⟨fun e=>absurd e (by decide),fun e=>absurd e (by decide),fun e=>absurd e (by decide)⟩ (all_two (p:=fun j x=>kidB _ _ j x.kind=true∧isN x (freeB _ _ j)=true) (kid_ok (c:=4) (by rfl) (ex_is hc).1 (ex_is hc).2) (kid_okK (c:=5) (k:=13) (by rfl) (by rfl) rfl (bl_is ih)))⟩
 | ret x hx=>exact ⟨rfl,mk_is (t:=false) (mx:=0) (least:=1) (most:=1) (by rfl) ⟨by simp,fun _=>by simp⟩ rfl (abs_0 (by decide)) ⟨fun e=>absurd e (by decide),fun e=>absurd e (by decide),fun e=>absurd e (by decide)⟩ (all_one (p:=fun j x=>kidB _ _ j x.kind=true∧isN x (freeB _ _ j)=true) (kid_ok (c:=4) (by rfl) (ex_is hx).1 (ex_is hx).2))⟩
 | put x hx=>exact ⟨rfl,mk_is (t:=false) (mx:=0) (least:=1) (most:=1) (by rfl) ⟨by simp,fun _=>by simp⟩ rfl (abs_0 (by decide)) ⟨fun e=>absurd e (by decide),fun e=>absurd e (by decide),fun e=>absurd e (by decide)⟩ (all_one (p:=fun j x=>kidB _ _ j x.kind=true∧isN x (freeB _ _ j)=true) (kid_ok (c:=4) (by rfl) (ex_is hx).1 (ex_is hx).2))⟩
 | do1 x l hx hl=>
  have hc:=ca_ex (IsCa.call x l hx hl)
  exact ⟨rfl,mk_is (t:=false) (mx:=0) (least:=1) (most:=1) (by rfl) ⟨by simp,fun _=>by simp⟩ rfl (abs_0 (by decide)) ⟨fun e=>absurd e (by decide),fun e=>absurd e (by decide),fun _=>⟨rfl,hc.2⟩⟩ (all_one (p:=fun j x=>kidB _ _ j x.kind=true∧isN x (freeB _ _ j)=true) (kid_ok (c:=4) (by rfl) (ex_is hc.1).1 (ex_is hc.1).2))⟩
theorem pa_is {n:Nd} (h:IsPa n):n.kind=8∧isN n false=true:=by
 cases h with
 | param s t hs ht=>exact ⟨rfl,mk_is (t:=true) (mx:=0) (least:=1) (most:=1) (by rfl) ⟨by simp,fun _=>by simp⟩ (txt_ok hs) (abs_0 (by decide)) ⟨fun e=>absurd e (by decide),fun e=>absurd e (by decide),fun e=>absurd e (by decide)⟩ (all_one (p:=fun j x=>kidB _ _ j x.kind=true∧isN x (freeB _ _ j)=true) (kid_ok (c:=2) (by rfl) (ty_is ht).1 (ty_is ht).2))⟩
theorem fi_is {n:Nd} (h:IsFi n):n.kind=3∧isN n false=true:=by
 cases h with
 | field s t hs ht=>exact ⟨rfl,mk_is (t:=true) (mx:=0) (least:=1) (most:=1) (by rfl) ⟨by simp,fun _=>by simp⟩ (txt_ok hs) (abs_0 (by decide)) ⟨fun e=>absurd e (by decide),fun e=>absurd e (by decide),fun e=>absurd e (by decide)⟩ (all_one (p:=fun j x=>kidB _ _ j x.kind=true∧isN x (freeB _ _ j)=true) (kid_ok (c:=2) (by rfl) (ty_is ht).1 (ty_is ht).2))⟩
theorem num_is {k:Int} {v m:Int} (hk:k=21∧m=2147483647∨k=22∧m=9223372036854775807) (h0:-m≤v) (h1:v≤m):isN (.mk k [] v []) true=true:=by
 have ha:0≤absN true v∧absN true v≤m:=by
  unfold absN neg64
  simp only [true_and]
  repeat' split
  all_goals omega
 rcases hk with ⟨rfl,rfl⟩|⟨rfl,rfl⟩
 ·exact mk_is (t:=false) (mx:=-1) (least:=0) (most:=0) (by rfl) ⟨by simp,fun _=>by simp⟩ rfl ⟨ha.1,fun e=>absurd e (by decide),fun _=>ha.2⟩ ⟨fun e=>absurd e (by decide),fun e=>absurd e (by decide),fun e=>absurd e (by decide)⟩ (fun j hj=>absurd hj (by simp))
 ·exact mk_is (t:=false) (mx:=-1) (least:=0) (most:=0) (by rfl) ⟨by simp,fun _=>by simp⟩ rfl ⟨ha.1,fun e=>absurd e (by decide),fun e=>absurd e (by decide)⟩ ⟨fun e=>absurd e (by decide),fun e=>absurd e (by decide),fun e=>absurd e (by decide)⟩ (fun j hj=>absurd hj (by simp))
theorem kid_num {n:Nat} {k v:Int} (hk:k=21∨k=22) (h:isN (.mk k [] v []) true=true):kidB 6 2 1 (Nd.mk k [] v []).kind=true∧isN (.mk k [] v []) (freeB 6 2 1)=true:=by
 rcases hk with rfl|rfl
 ·exact ⟨rfl,h⟩
 ·exact ⟨rfl,h⟩
theorem de_is {n:Nd} (h:IsDe n):clsN n.kind=1∧isN n false=true:=by
 cases h with
 | struct1 s l hs hne hl=>
  have hp:1≤l.length:=by cases l with|nil=>exact absurd rfl hne|cons a r=>simp
  exact ⟨rfl,mk_is (t:=true) (mx:=0) (least:=1) (most:=-1) (by rfl) ⟨by omega,fun e=>absurd e (by decide)⟩ (txt_ok hs) (abs_0 (by decide)) ⟨fun e=>absurd e (by decide),fun e=>absurd e (by decide),fun e=>absurd e (by decide)⟩ (fun j hj=>by have hx:=fi_is (hl _ (List.getElem_mem hj));exact kid_okK (c:=5) (k:=3) (by rfl) (by rfl) hx.1 hx.2)⟩
 | extern1 s l d t hs hl ht=>
  refine ⟨rfl,mk_is (t:=true) (mx:=1) (least:=1) (most:=-1) (by rfl) ⟨by simp;omega,fun e=>absurd e (by decide)⟩ (txt_ok hs) (abs_z (b2n_le d).1 (b2n_le d).2 (by decide)) ⟨fun e=>absurd e (by decide),fun e=>absurd e (by decide),fun e=>absurd e (by decide)⟩ (fun j hj=>?_)⟩
  by_cases q:j<l.length
  ·rw [List.getElem_append_left q]
   have hx:=pa_is (hl _ (List.getElem_mem q))
   exact kid_okK (c:=5) (k:=8) (by unfold wantN;simp;omega) (by rfl) hx.1 hx.2
  ·obtain rfl:j=l.length:=by simp at hj;omega
   rw [List.getElem_append_right (Nat.le_refl _)]
   simp only [Nat.sub_self,List.getElem_cons_zero]
   exact kid_ok (c:=2) (by unfold wantN;simp) (ty_is ht).1 (ty_is ht).2
 | outside s t hs ht=>exact ⟨rfl,mk_is (t:=true) (mx:=0) (least:=1) (most:=1) (by rfl) ⟨by simp,fun _=>by simp⟩ (txt_ok hs) (abs_0 (by decide)) ⟨fun e=>absurd e (by decide),fun e=>absurd e (by decide),fun e=>absurd e (by decide)⟩ (all_one (p:=fun j x=>kidB _ _ j x.kind=true∧isN x (freeB _ _ j)=true) (kid_ok (c:=2) (by rfl) (ty_is ht).1 (ty_is ht).2))⟩
 | global s st t v hs ht h0 h1=>exact ⟨rfl,mk_is (t:=true) (mx:=1) (least:=2) (most:=2) (by rfl) ⟨by simp,fun _=>by simp⟩ (txt_ok hs) (abs_z (b2n_le st).1 (b2n_le st).2 (by decide)) ⟨fun e=>absurd e (by decide),fun e=>absurd e (by decide),fun e=>absurd e (by decide)⟩ (all_two (p:=fun j x=>kidB _ _ j x.kind=true∧isN x (freeB _ _ j)=true) (kid_ok (c:=2) (by rfl) (ty_is ht).1 (ty_is ht).2) (kid_num (n:=0) (Or.inl rfl) (num_is (Or.inl ⟨rfl,rfl⟩) h0 h1)))⟩
 | globalL s st t v hs ht h0 h1=>exact ⟨rfl,mk_is (t:=true) (mx:=1) (least:=2) (most:=2) (by rfl) ⟨by simp,fun _=>by simp⟩ (txt_ok hs) (abs_z (b2n_le st).1 (b2n_le st).2 (by decide)) ⟨fun e=>absurd e (by decide),fun e=>absurd e (by decide),fun e=>absurd e (by decide)⟩ (all_two (p:=fun j x=>kidB _ _ j x.kind=true∧isN x (freeB _ _ j)=true) (kid_ok (c:=2) (by rfl) (ty_is ht).1 (ty_is ht).2) (kid_num (n:=0) (Or.inr rfl) (num_is (Or.inr ⟨rfl,rfl⟩) h0 h1)))⟩
 | fun1 s st d l t b hs hl ht hb=>
  have hv:0≤b2n st+2*b2n d∧b2n st+2*b2n d≤3:=by have:=b2n_le st;have:=b2n_le d;omega
  refine ⟨rfl,mk_is (t:=true) (mx:=3) (least:=2) (most:=-1) (by rfl) ⟨by simp;omega,fun e=>absurd e (by decide)⟩ (txt_ok hs) (abs_z hv.1 hv.2 (by decide)) ⟨fun e=>absurd e (by decide),fun e=>absurd e (by decide),fun e=>absurd e (by decide)⟩ (fun j hj=>?_)⟩
  by_cases q:j<l.length
  ·rw [List.getElem_append_left (by simp;omega),List.getElem_append_left q]
   have hx:=pa_is (hl _ (List.getElem_mem q))
   exact kid_okK (c:=5) (k:=8) (by unfold wantN;simp;rw [if_neg (by omega),if_neg (by omega)]) (by rfl) hx.1 hx.2
  ·by_cases q2:j=l.length
   ·subst q2
    rw [List.getElem_append_left (by simp),List.getElem_append_right (Nat.le_refl _)]
    simp only [Nat.sub_self,List.getElem_cons_zero]
    exact kid_ok (c:=2) (by unfold wantN;simp) (ty_is ht).1 (ty_is ht).2
   ·obtain rfl:j=l.length+1:=by simp at hj;omega
    rw [List.getElem_append_right (by simp)]
    simp only [List.length_append,List.length_cons,List.length_nil,Nat.zero_add,Nat.sub_self,List.getElem_cons_zero]
    exact kid_okK (c:=5) (k:=13) (by unfold wantN;simp) (by rfl) rfl (bl_is fun y hy=>st_is (hb y hy))
end Go.Proofs.YthcfianhdkolhaaGreatDoor.S
namespace Go.Proofs.YthcfianhdkolhaaGreatDoor.S
set_option linter.unusedVariables false
set_option linter.unusedSimpArgs false
mutual
def cnt:Nd→Nat
 | .mk _ _ _ kids=>cntL kids+1
def cntL:List Nd→Nat
 | []=>0
 | k::r=>cnt k+cntL r
end
mutual
def dpt:Nd→Nat
 | .mk _ _ _ kids=>dptL kids+1
def dptL:List Nd→Nat
 | []=>0
 | k::r=>max (dpt k) (dptL r)
end
theorem cnt_mk (k:Int) (t:List UInt8) (v:Int) (l:List Nd):cnt (.mk k t v l)=cntL l+1:=by rw [cnt]
theorem dpt_mk (k:Int) (t:List UInt8) (v:Int) (l:List Nd):dpt (.mk k t v l)=dptL l+1:=by rw [dpt]
theorem cntL_cons (k:Nd) (r:List Nd):cntL (k::r)=cnt k+cntL r:=by rw [cntL]
theorem dptL_cons (k:Nd) (r:List Nd):dptL (k::r)=max (dpt k) (dptL r):=by rw [dptL]
theorem cntL_nil:cntL []=0:=by rw [cntL]
theorem dptL_nil:dptL []=0:=by rw [dptL]
theorem cntL_app (a b:List Nd):cntL (a++b)=cntL a+cntL b:=by
 induction a with
 | nil=>simp [cntL_nil]
 | cons x r ih=>simp only [List.cons_append,cntL_cons,ih];omega
theorem cnt_pos (n:Nd):1≤cnt n:=by cases n;rw [cnt_mk];omega
theorem len_cnt (l:List Nd):l.length≤cntL l:=by
 induction l with
 | nil=>simp
 | cons x r ih=>rw [cntL_cons,List.length_cons];have:=cnt_pos x;omega
theorem cnt_mem {x:Nd} {l:List Nd} (h:x∈l):cnt x≤cntL l:=by
 induction l with
 | nil=>simp at h
 | cons y r ih=>
  rw [cntL_cons]
  rcases List.mem_cons.1 h with rfl|h
  ·omega
  ·have:=ih h;omega
def sumT (ts:List (List Tk)):Nat:=(ts.map List.length).sum
theorem sumT_cons (x:List Tk) (r:List (List Tk)):sumT (x::r)=x.length+sumT r:=by simp [sumT]
theorem sumT_app (a b:List (List Tk)):sumT (a++b)=sumT a+sumT b:=by simp [sumT]
theorem flat_sum (ts:List (List Tk)):ts.flatten.length=sumT ts:=by
 induction ts with
 | nil=>rfl
 | cons x r ih=>rw [List.flatten_cons,List.length_append,ih,sumT_cons]
theorem join_sum:∀ (ts:List (List Tk)),(joinT ts).length≤sumT ts+ts.length
 | []=>by simp [joinT]
 | [x]=>by simp [joinT,sumT]
 | x::y::r=>by
  have:=join_sum (y::r)
  rw [joinT,sumT_cons]
  simp only [List.length_append,List.length_cons] at *
  omega
theorem row_sum (ts:List (List Tk)) (d:Bool):(rowT ts d).length≤sumT ts+ts.length+4:=by
 unfold rowT
 have:=join_sum (ts++(if d=true then [[sg sDOTS]] else []))
 rw [sumT_app] at this
 have h2:sumT (if d=true then [[sg sDOTS]] else [])≤1:=by cases d<;>simp [sumT]
 have h3:(if d=true then [[sg sDOTS]] else []).length≤1:=by cases d<;>simp
 simp only [List.length_append,List.length_cons,List.length_nil] at *
 omega
theorem last_sum (ts:List (List Tk)):(lastT ts).length+sumT ts.dropLast≤sumT ts∧ts.dropLast.length≤ts.length:=by
 rcases List.eq_nil_or_concat ts with rfl|⟨a,x,rfl⟩
 ·simp [lastT,sumT]
 ·simp [lastT,sumT_app,sumT]
  omega
theorem head_sum (ts:List (List Tk)):(ts.headD []).length≤sumT ts:=by
 cases ts with
 | nil=>simp
 | cons x r=>rw [sumT_cons];simp
theorem at_len (b k:Int) (x:List Tk):(atT b k x).length≤x.length+2:=by unfold atT;split<;>simp
theorem num_len (k v:Int):(numT k v).length≤2:=by unfold numT;split<;>simp
end Go.Proofs.YthcfianhdkolhaaGreatDoor.S
namespace Go.Proofs.YthcfianhdkolhaaGreatDoor.S
set_option linter.unusedVariables false
set_option linter.unusedSimpArgs false
mutual
def tb:Nd→Nat
 | .mk _ _ _ kids=>2*tbL kids+3*kids.length+9
def tbL:List Nd→Nat
 | []=>0
 | k::r=>tb k+tbL r
end
theorem tb_mk (k:Int) (t:List UInt8) (v:Int) (l:List Nd):tb (.mk k t v l)=2*tbL l+3*l.length+9:=by rw [tb]
theorem tbL_cons (k:Nd) (r:List Nd):tbL (k::r)=tb k+tbL r:=by rw [tbL]
theorem tbL_nil:tbL []=0:=by rw [tbL]
theorem tbL_app (a b:List Nd):tbL (a++b)=tbL a+tbL b:=by
 induction a with
 | nil=>simp [tbL_nil]
 | cons x r ih=>simp only [List.cons_append,tbL_cons,ih];omega
theorem tbL_take {l:List Nd} {j:Nat} (hj:j<l.length):tbL (l.take j)+tb l[j]≤tbL l:=by
 have e:l=l.take j++l[j]::l.drop (j+1):=by rw [← List.drop_eq_getElem_cons hj,List.take_append_drop]
 have:tbL l=tbL (l.take j)+(tb l[j]+tbL (l.drop (j+1))):=by
  conv=>lhs;rw [e]
  rw [tbL_app,tbL_cons]
 omega
theorem ite_le {c:Prop} [Decidable c] {a b:List Tk} {n:Nat} (h1:a.length≤n) (h2:b.length≤n):(if c then a else b).length≤n:=by split<;>assumption
theorem shI_len (ts:List (List Tk)):(shI ts).length≤sumT ts+9:=by
 unfold shI
 split
 ·simp [sumT];omega
 ·simp [sumT];omega
 ·simp
theorem shW_len (ts:List (List Tk)):(shW ts).length≤sumT ts+9:=by
 unfold shW
 split
 ·simp [sumT];omega
 ·simp
theorem sh1_len (kids:List Nd) (ts:List (List Tk)) (f:Nd→List Tk→List Tk) (hf:∀ a x,(f a x).length≤x.length+9):(sh1 kids ts f).length≤sumT ts+9:=by
 unfold sh1
 split
 ·rename_i a x;have:=hf a x;simp [sumT];exact this
 ·simp
theorem sh2_len (kids:List Nd) (ts:List (List Tk)) (f:Nd→List Tk→Nd→List Tk→List Tk) (hf:∀ a x b y,(f a x b y).length≤x.length+y.length+9):(sh2 kids ts f).length≤sumT ts+9:=by
 unfold sh2
 split
 ·rename_i a b x y;have:=hf a x b y;simp [sumT];omega
 ·simp
theorem shC_len (kids:List Nd) (ts:List (List Tk)) (f:Nd→List Tk→List (List Tk)→List Tk) (hf:∀ a x r,(f a x r).length≤x.length+sumT r+r.length+9):(shC kids ts f).length≤sumT ts+ts.length+9:=by
 unfold shC
 split
 ·rename_i a _ x r;have:=hf a x r;rw [sumT_cons];simp only [List.length_cons];omega
 ·simp
theorem sh_len (kind:Int) (text:List UInt8) (num:Int) (kids:List Nd) (ts:List (List Tk)):(shK kind text num kids ts).length≤2*sumT ts+3*ts.length+9:=by
 have hf:=flat_sum ts
 have hl:=last_sum ts
 have hl2:=last_sum ts.dropLast
 have hh:=head_sum ts
 have hj:=join_sum ts
 have hr:=row_sum ts.dropLast (decide (num=1))
 have hr2:=row_sum ts.dropLast.dropLast (decide (2≤num))
 have hn1:=num_len 2 num
 have hn2:=num_len 3 num
 have hs:(if num % 2=1 then [wd sSTATIC] else []).length≤1:=by split<;>simp
 have hI:=shI_len ts
 have hW:=shW_len ts
 have a24:=sh1_len kids ts (fun a x=>atT (bindN a) 4 x++[sg sDOT,wd text]) (fun a x=>by have:=at_len (bindN a) 4 x;simp;omega)
 have a25:=shC_len kids ts (fun a x r=>atT (bindN a) 4 x++rowT r false) (fun a x r=>by have:=at_len (bindN a) 4 x;have:=row_sum r false;simp;omega)
 have a28:=sh1_len kids ts (fun a x=>sg sMINUS::atT (bindN a) 3 x) (fun a x=>by have:=at_len (bindN a) 3 x;simp;omega)
 have a29:=sh1_len kids ts (fun a x=>sg sNOT::atT (bindN a) 3 x) (fun a x=>by have:=at_len (bindN a) 3 x;simp;omega)
 have a32:=sh2_len kids ts (fun a x b y=>atT (bindN a) (max (opBind num) 1) x++(sg (opSign num)::atT (bindN b) (opBind num+1) y)) (fun a x b y=>by have:=at_len (bindN a) (max (opBind num) 1) x;have:=at_len (bindN b) (opBind num+1) y;simp;omega)
 unfold shK
 repeat' apply ite_le
 all_goals first|omega|(simp only [List.length_append,List.length_cons,List.length_nil];omega)
theorem sh_tb:∀ n,(shT n).length≤tb n:=by
 refine Nd.ind fun k t v kids ih=>?_
 rw [shT_mk,tb_mk]
 have h1:=sh_len k t v kids (kids.map shT)
 have h2:sumT (kids.map shT)≤tbL kids:=by
  clear h1
  induction kids with
  | nil=>simp [sumT,tbL_nil]
  | cons x r ihr=>
   rw [List.map_cons,sumT_cons,tbL_cons]
   have:=ih x (by simp)
   have:=ihr (fun y hy=>ih y (by simp [hy]))
   omega
 rw [List.length_map] at h1
 omega
theorem joinL_tb (l:List Nd):(joinT (l.map shT)).length≤tbL l+l.length:=by
 have h1:=join_sum (l.map shT)
 have h2:sumT (l.map shT)≤tbL l:=by
  clear h1
  induction l with
  | nil=>simp [sumT,tbL_nil]
  | cons x r ihr=>
   rw [List.map_cons,sumT_cons,tbL_cons]
   have:=sh_tb x
   omega
 rw [List.length_map] at h1
 omega
theorem flatL_tb (l:List Nd):((l.map shT).flatten).length≤tbL l:=by
 rw [flat_sum]
 induction l with
 | nil=>simp [sumT,tbL_nil]
 | cons x r ihr=>
  rw [List.map_cons,sumT_cons,tbL_cons]
  have:=sh_tb x
  omega
theorem tb_top:∀ n,tb n≤12*3 ^ dpt n*cnt n:=by
 refine Nd.ind fun k t v kids ih=>?_
 rw [tb_mk,dpt_mk,cnt_mk]
 have h2:tbL kids≤12*3 ^ dptL kids*cntL kids:=by
  induction kids with
  | nil=>simp [tbL_nil]
  | cons x r ihr=>
   rw [tbL_cons,dptL_cons,cntL_cons]
   have h1:=ih x (by simp)
   have h2:=ihr (fun y hy=>ih y (by simp [hy]))
   have e1:3 ^ dpt x≤3 ^ max (dpt x) (dptL r):=Nat.pow_le_pow_right (by omega) (by omega)
   have e2:3 ^ dptL r≤3 ^ max (dpt x) (dptL r):=Nat.pow_le_pow_right (by omega) (by omega)
   have f1:12*3 ^ dpt x*cnt x≤12*3 ^ max (dpt x) (dptL r)*cnt x:=Nat.mul_le_mul_right _ (Nat.mul_le_mul_left _ e1)
   have f2:12*3 ^ dptL r*cntL r≤12*3 ^ max (dpt x) (dptL r)*cntL r:=Nat.mul_le_mul_right _ (Nat.mul_le_mul_left _ e2)
   rw [Nat.mul_add]
   omega
 have hl:=len_cnt kids
 have hp:1≤3 ^ dptL kids:=Nat.one_le_pow _ _ (by omega)
 have e:12*3 ^ (dptL kids+1)*(cntL kids+1)=3*(12*3 ^ dptL kids*cntL kids)+36*3 ^ dptL kids:=by
  rw [Nat.pow_succ,Nat.mul_add,Nat.mul_one,show 12*(3 ^ dptL kids*3)=3*(12*3 ^ dptL kids) by omega,Nat.mul_assoc 3]
  omega
 have h3:3*cntL kids≤12*3 ^ dptL kids*cntL kids:=Nat.mul_le_mul_right _ (by omega)
 omega
theorem tb_fits {n:Nd} (h1:cnt n≤700) (h2:dpt n≤16):tb n≤400000000000:=by
 have h:=tb_top n
 have e:3 ^ dpt n≤3 ^ 16:=Nat.pow_le_pow_right (by omega) h2
 have e16:(3:Nat) ^ 16=43046721:=by decide
 have:12*3 ^ dpt n*cnt n≤12*43046721*700:=Nat.mul_le_mul (Nat.mul_le_mul_left _ (by omega)) h1
 omega
def rawT (t:Tk):List UInt8:=if t.kind=3 then t.text++[76] else t.text
def txs (l:List Tk):List (List UInt8):=l.map rawT
theorem txs_app (a b:List Tk):txs (a++b)=txs a++txs b:=List.map_append
theorem txs_cons (a:Tk) (b:List Tk):txs (a::b)=rawT a::txs b:=rfl
theorem txs_len (a:List Tk):(txs a).length=a.length:=List.length_map _
theorem raw_wd (s:List UInt8):rawT (wd s)=s:=rfl
theorem raw_sg (s:List UInt8):rawT (sg s)=s:=rfl
theorem joinT_snoc:∀ (a:List (List Tk)) (x:List Tk),joinT (a++[x])=if a=[] then x else joinT a++(sg sCOMMA::x)
 | [],x=>rfl
 | [y],x=>by simp [joinT]
 | y::z::r,x=>by
  have:=joinT_snoc (z::r) x
  simp only [List.cons_append,joinT,this] at *
  simp
end Go.Proofs.YthcfianhdkolhaaGreatDoor.S
