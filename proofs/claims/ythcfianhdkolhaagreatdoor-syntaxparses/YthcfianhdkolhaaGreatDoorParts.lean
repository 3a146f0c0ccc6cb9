/- Parts -/
import Derived.Test.YthcfianhdkolhaaGreatDoorSign
import Derived.Test.YthcfianhdkolhaaGreatDoorSynDig
namespace Go.Proofs.YthcfianhdkolhaaGreatDoor.T
open Go.RowKit Go.Proofs.YthcfianhdkolhaaGreatDoor.S
set_option linter.unusedVariables false
set_option linter.unusedSimpArgs false
theorem heap_new (w:World) (cs:Array Value) (t:TypeId):(w.alloc (.cells cs t)).heap[w.heap.size]?=some (.cells cs t (0,0)):=by
 show (w.heap.push (.cells cs t))[w.heap.size]?=_
 simp
theorem all_take {p:Nd→Prop} {l:List Nd} {j:Nat} (hj:j<l.length) (h:∀ x,x∈l.take j→p x) (hp:p l[j]):∀ x,x∈l.take (j+1)→p x:=fun x hx=>by
 rw [List.take_succ_eq_append_getElem hj,List.mem_append] at hx
 rcases hx with hx|hx
 ·exact h x hx
 rw [List.mem_singleton.1 hx];exact hp
end Go.Proofs.YthcfianhdkolhaaGreatDoor.T
