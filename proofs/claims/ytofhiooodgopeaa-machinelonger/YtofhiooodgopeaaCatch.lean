/- The contracts of what (*machine).goOn defers. -/
import Derived.Test.YtofhiooodgopeaaGive
import Derived.Defers
import Derived.Recover
namespace Go.Proofs.Ytofhiooodgopeaa.V
open Go.RowKit
set_option linter.unusedVariables false
set_option linter.unusedSimpArgs false

set_option maxRecDepth 100000 in
set_option maxHeartbeats 1000000 in
theorem catch_idle (q : Nat) (w : World) :
    CallsD Try.prog 25 #[.pointer (some ⟨q, 0, none⟩)] .returning w fun e u' w' => e = .returned (.tuple #[]) ∧ u' = .returning ∧ w' = w := by
  refine callsD_of_wpS Try.func25 rfl fun c₀ cs hu => ?_
  apply wpS_seq
  apply wpS_region
  simp [wpOpsS, go_sem, recoverD, hu, Try.ntmps25, Exit.thenS]
  refine wpS_of_wp ?_
  change Code.wp _ _ _ ⟨#[.pointer (some ⟨q, 0, none⟩), .nilIface, .nilIface, undef, undef, undef, undef, undef, undef, undef, undef], []⟩ _
  go_wp2
  cases c₀
  simp_all [bodyPostS, results, Try.results25]
set_option maxRecDepth 100000 in
set_option maxHeartbeats 1000000 in
theorem catch_panicking (q b : Nat) (x y : Int) (older : List PanicEntry) (w : World) (hq : w.cell? ⟨q, 0, none⟩ = some (.pointer (some ⟨b, 0, none⟩))) (hc : w.cell? ⟨b, 17, none⟩ = some (.int .i64 y)) (hz : w.frozen? ⟨b, 17, none⟩ = false) :
    CallsD Try.prog 25 #[.pointer (some ⟨q, 0, none⟩)] (.panicking ({ v := .iface 67 (.int .i64 x), recovered := false } :: older)) w fun e u' w' =>
      e = .returned (.tuple #[]) ∧ u' = .panicking ({ v := .iface 67 (.int .i64 x), recovered := true } :: older) ∧ w' = (w.setCell ⟨b, 17, none⟩ (.int .i64 x)).drew := by
  have hta : ∀ (w : World), (Instr.typeAssert (.iface 67 (.int .i64 x)) 20 67 false).run Try.prog w = .ok (.int .i64 x) w := fun _ => by kernel_rfl
  refine callsD_of_wpS Try.func25 rfl fun c₀ cs hu => ?_
  apply wpS_seq
  apply wpS_region
  simp [wpOpsS, go_sem, recoverD, hu, Try.ntmps25, Exit.thenS]
  refine wpS_of_wp ?_
  change Code.wp _ _ _ ⟨#[.pointer (some ⟨q, 0, none⟩), .iface 67 (.int .i64 x), .iface 67 (.int .i64 x), undef, undef, undef, undef, undef, undef, undef, undef], []⟩ _
  go_wp2
  go_region
  all_goals
    go_wp2
    simp [bodyPostS, results, Try.results25]
end Go.Proofs.Ytofhiooodgopeaa.V
