/-
  NARROWER THAN 'FOR EVERY INPUT', by the rows' own cells (each row's printed sentence says how): AbiTells: loops · AbiApart: loops.
  DERIVED. THE GIVEN ROWS OF THIS SEAT. 2 by the template 'for every input the law returns true; each argument reads behind the call as it read before'; 0 by the template 'total and deterministic' (their statements: YtmbhcpnlfdgkjaaTotals.lean).
  GIVEN WITH THE SEED: the statements are not yours to turn. If you find one false, say at which input.
  Laid BY PROGRAM, IN A SANDBOX (cutbox-rows.mjs): the forced cells as the released guide's own fill.sh prints them over the translation 00975dc6bc813dbf… (all of the seat's roots in one cut). By AI agents, Wed Nov 11 2026. No macro, syntax, notation, axiom, sorry.
-/
import Derived.Test.YtmbhcpnlfdgkjaaChecked
import GoSem.Claim
import GoSem.ClaimJoined
import GoSem.ClaimMapViews
import Derived.JoinedTies
import Derived.KernelRfl
namespace Go.Proofs.Ytmbhcpnlfdgkjaa
/- THE CELL 'sum', in the pinned program and in every row, IS THE sha256 OF THE DUMP (.gsa) THAT YtmbhcpnlfdgkjaaProg.lean LOADS. Nothing in Lean hashes anything: it is a label: what it is worth is what the hold of that sum in a sandbox is worth. -/
noncomputable def Try.pinned : Pinned := { name := "ytmbhcpnlfdgkjaa", sum := "00975dc6bc813dbfd39d0888a9a3dd9237c779f29ad98e7eb01f6ba5c0ee997d", checked := Try.checked }
namespace Rows
def none {H : Type} : Left H := { results := [], args := [] }

/-- 'scarfjointlaw.AbiTells': WHATEVER THE INPUT: true; the input reads as it did. -/
def abiTellsSpec : ChangeSpec := { name := "abiTells", fn := fun _ => fun
  | [d1, d2] => { results := [.lit (.bool true)], args := [d1, d2] }
  | _ => none }
def abiTellsRow : OpenClaim := { program := "ytmbhcpnlfdgkjaa", sum := "00975dc6bc813dbfd39d0888a9a3dd9237c779f29ad98e7eb01f6ba5c0ee997d", func := "scarfjoint/scarfjointlaw.AbiTells", spec := "abiTells", unfollowed := true, recurses := true, loops := true, apart := false }
def AbiTellsSaid : Prop := abiTellsRow.holds Try.pinned (OpenSpec.ofChange abiTellsSpec)

/-- ITS FALSE NEIGHBOUR: 'it returns false'. Refute it at one input. -/
def abiTellsWrong : ChangeSpec := { name := "abiTells", fn := fun _ => fun
  | [d1, d2] => { results := [.lit (.bool false)], args := [d1, d2] }
  | _ => none }
def AbiTellsWrongFalsely : Prop := abiTellsRow.holds Try.pinned (OpenSpec.ofChange abiTellsWrong)

/-- 'scarfjointkeep.AbiApart': WHATEVER THE INPUT: true; the input reads as it did. -/
def abiApartSpec : ChangeSpec := { name := "abiApart", fn := fun _ => fun
  | [d1, d2] => { results := [.lit (.bool true)], args := [d1, d2] }
  | _ => none }
def abiApartRow : OpenClaim := { program := "ytmbhcpnlfdgkjaa", sum := "00975dc6bc813dbfd39d0888a9a3dd9237c779f29ad98e7eb01f6ba5c0ee997d", func := "scarfjoint/scarfjointkeep.AbiApart", spec := "abiApart", unfollowed := true, recurses := true, loops := true, apart := false }
def AbiApartSaid : Prop := abiApartRow.holds Try.pinned (OpenSpec.ofChange abiApartSpec)

/-- ITS FALSE NEIGHBOUR: 'it returns false'. Refute it at one input. -/
def abiApartWrong : ChangeSpec := { name := "abiApart", fn := fun _ => fun
  | [d1, d2] => { results := [.lit (.bool false)], args := [d1, d2] }
  | _ => none }
def AbiApartWrongFalsely : Prop := abiApartRow.holds Try.pinned (OpenSpec.ofChange abiApartWrong)

/- THE SECOND FORM. 'bulk': how many values and letters a reading holds, each counted each time it is reached (what is shared counts as often as it is met; a slice's spare places count too). A statement '..UptoSaid' is the law's where the arguments, and the package variables that the reading takes, are together of bulk at most 1048576: NARROWER than '..Said'. Prove '..Said' where nothing that the law and all that it calls make is longer than what came in: it says more and counts as full. Else prove '..UptoSaid'. A law counts once. -/
mutual
def uptoBulk {H : Type} : DataW H → Nat
  | .lit (.string bytes) => bytes.length + 1
  | .lit _ => 1
  | .nil => 1
  | .ptr d => uptoBulk d + 1
  | .slice elems spare => uptoBulkAll elems + uptoBulkAll spare + 1
  | .agg parts => uptoBulkAll parts + 1
  | .iface _ d => uptoBulk d + 1
  | .map entries => uptoBulkEntries entries + 1
  | .held _ => 1
def uptoBulkAll {H : Type} : List (DataW H) → Nat
  | [] => 0
  | d :: r => uptoBulk d + uptoBulkAll r
def uptoBulkEntries {H : Type} : List (Lit × DataW H) → Nat
  | [] => 0
  | x :: r => uptoBulkEntry x + uptoBulkEntries r
def uptoBulkEntry {H : Type} : Lit × DataW H → Nat
  | (.string bytes, d) => bytes.length + uptoBulk d + 1
  | (_, d) => uptoBulk d + 1
 end
def uptoSmall : (H : Type) → List (DataW H) → Bool := fun _ ds => decide (uptoBulkAll ds ≤ 1048576)
def OpenSpec.upto (s : _root_.Go.ChangeSpec) : _root_.Go.OpenSpec := { _root_.Go.OpenSpec.ofChange s with cond := some uptoSmall }

/-- 'scarfjointlaw.AbiTells', WHERE WHAT IT READS IS OF BULK AT MOST 1048576: true; the input reads as it did. -/
def abiTellsUptoRow : OpenClaim := { program := "ytmbhcpnlfdgkjaa", sum := "00975dc6bc813dbfd39d0888a9a3dd9237c779f29ad98e7eb01f6ba5c0ee997d", func := "scarfjoint/scarfjointlaw.AbiTells", spec := "abiTells", unfollowed := true, recurses := true, loops := true, apart := false, narrowed := true }
def AbiTellsUptoSaid : Prop := abiTellsUptoRow.holds Try.pinned (OpenSpec.upto abiTellsSpec)

/-- 'scarfjointkeep.AbiApart', WHERE WHAT IT READS IS OF BULK AT MOST 1048576: true; the input reads as it did. -/
def abiApartUptoRow : OpenClaim := { program := "ytmbhcpnlfdgkjaa", sum := "00975dc6bc813dbfd39d0888a9a3dd9237c779f29ad98e7eb01f6ba5c0ee997d", func := "scarfjoint/scarfjointkeep.AbiApart", spec := "abiApart", unfollowed := true, recurses := true, loops := true, apart := false, narrowed := true }
def AbiApartUptoSaid : Prop := abiApartUptoRow.holds Try.pinned (OpenSpec.upto abiApartSpec)

end Rows
end Go.Proofs.Ytmbhcpnlfdgkjaa
