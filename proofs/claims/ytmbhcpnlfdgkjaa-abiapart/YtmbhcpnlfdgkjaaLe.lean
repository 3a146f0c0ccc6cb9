/- The law AbiApart, given what the program's Places answers: joined. -/
import Derived.Test.YtmbhcpnlfdgkjaaLdAT
import Derived.Test.YtmbhcpnlfdgkjaaLdAF
import Derived.Test.YtmbhcpnlfdgkjaaLdBT
import Derived.Test.YtmbhcpnlfdgkjaaLdBF
namespace Go.Proofs.Ytmbhcpnlfdgkjaa.T
open Go.RowKit
set_option linter.unusedVariables false
set_option linter.unusedSimpArgs false
set_option maxRecDepth 100000 in
set_option maxHeartbeats 2000000 in
theorem apart_bad (HP : Pr9) (T : Ty) (v : Value) (ba : Option Addr) (bn bc : Nat) (bs : Nat → Ty) (w : World) (hv : TyV w T v) (hbs : Tys w (.slice ba bn bc) bn bs) (he : ¬ errP T bn bs = 0) : Calls Try.prog 4 #[v, .slice ba bn bc] w fun e w' => e = .returned (.bool true) ∧ Below w.heap.size w w' := by
  have C1 : Hid (∀ w', Below w.heap.size w w' → Calls Try.prog 5 #[v, .slice ba bn bc] w' (PostP w' T bn bs)) := fun w' hb => HP T v ba bn bc bs w' (hv.below hb) (hbs.below hb)
  have e1 : plR T bn bs = Pl0 := by unfold plR; rw [if_neg he]
  unfold PostP at C1
  rw [e1] at C1
  rcases T with _ | ⟨kind, name, nn, names, pn, parts, many⟩
  · exact (TyV_leaf hv).elim
  obtain ⟨na, nc, pa, pc, rfl, -⟩ := hv.part
  generalize errP (.mk kind name nn names pn parts many) bn bs = E at *
  have he' : ¬ (E : Int) = 0 := by omega
  have he'' : ((E : Int) == 0) = false := by simpa using he'
  have HF := hide ((Fr.start w).alloc rfl #[.int .i64 kind, .string name, .slice na nn nc, .slice pa pn pc, .bool many] 25)
  clear hv hbs HP e1
  go_enter Try.func4, Try.ntmps4
  go_wp2_with fail
  go_at_call 5
  refine (C1.out _ HF.out.below).mono ?_
  rintro e w1 ⟨v1, rfl, h1, hb⟩
  obtain ⟨x1, x2, x3, y1, y2, y3, rfl, A1⟩ := h1.ans
  replace HF := hide ((HF.out.call hb).alloc rfl #[.int .i64 0, .int .i64 0, .slice x1 0 y1, .slice x2 0 y2, .slice x3 0 y3, .int .i64 0, .int .i64 0] 30)
  clear h1 hb A1 C1
  have c0 := HF.out.cell 0 rfl
  simp only [Pl0, List.length_nil]
  go_wp2_with fail
  go_ret
  exact ⟨rfl, HF.out.below⟩
theorem apart_any (HP : Pr9) (T : Ty) (v : Value) (ba : Option Addr) (bn bc : Nat) (bs : Nat → Ty) (w : World) (hv : TyV w T v) (hbs : Tys w (.slice ba bn bc) bn bs) : Calls Try.prog 4 #[v, .slice ba bn bc] w fun e w' => e = .returned (.bool true) ∧ Below w.heap.size w w' := by
  by_cases he : errP T bn bs = 0
  case neg => exact apart_bad HP T v ba bn bc bs w hv hbs he
  obtain ⟨hk, hm, -⟩ := err_zero he
  obtain ⟨name, nn, names, pn, parts, many, rfl, hp1, hp7, -⟩ := good_facts hk hm
  obtain ⟨l, rfl⟩ : ∃ l, pn = l + 1 := ⟨pn - 1, by omega⟩
  by_cases h2 : 2 < sizeT (parts l)
  · cases many
    · exact apart_af HP name nn names l parts v ba bn bc bs w hv hbs he h2
    · exact apart_at HP name nn names l parts v ba bn bc bs w hv hbs he h2
  · cases many
    · exact apart_bf HP name nn names l parts v ba bn bc bs w hv hbs he h2
    · exact apart_bt HP name nn names l parts v ba bn bc bs w hv hbs he h2
end Go.Proofs.Ytmbhcpnlfdgkjaa.T
