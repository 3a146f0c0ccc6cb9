/- XTd -/
import Derived.Test.YthcfianhdkolhaaGreatDoorProg
namespace Go.Proofs.YthcfianhdkolhaaGreatDoor.X
structure Tok where
 kind:Int
 text:ByteArray
 at_:Nat
def Tok.cells (k:Tok):List Value:=[.int .i64 k.kind,.string k.text,.int .i64 k.at_]
def toks (l:List Tok):List Value:=l.flatMap Tok.cells
theorem toks_app (l:List Tok) (k:Tok):toks (l++[k])=toks l++k.cells:=by unfold toks;rw [List.flatMap_append,List.flatMap_singleton]
end Go.Proofs.YthcfianhdkolhaaGreatDoor.X
