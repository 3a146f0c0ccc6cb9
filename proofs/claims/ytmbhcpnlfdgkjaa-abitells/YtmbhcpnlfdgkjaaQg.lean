/- What the program's Places answers. -/
import Derived.Test.YtmbhcpnlfdgkjaaQf
import Derived.Test.YtmbhcpnlfdgkjaaLc
namespace Go.Proofs.Ytmbhcpnlfdgkjaa.T
open Go.RowKit
set_option linter.unusedVariables false
set_option linter.unusedSimpArgs false
theorem err_good {T : Ty} {bn : Nat} {bs : Nat → Ty} (h : errP T bn bs = 0) : (List.range bn).any (fun i => badB (bs i)) = false := by
  obtain ⟨h1, h2, h6⟩ := err_zero h
  unfold errP at h
  rw [if_neg (by rw [h1, h2]; simp)] at h
  split at h
  · cases h
  split at h
  · cases h
  · next h3 => simpa using h3
theorem pr9 : Pr9 := fun T v ba bn bc bs w hv hbs => by
  by_cases he : errP T bn bs = 0
  · obtain ⟨hk, hm, h6⟩ := err_zero he
    obtain ⟨name, nn, names, pn, parts, many, rfl, hp1, hp7, -⟩ := good_facts hk hm
    obtain ⟨l, rfl⟩ : ∃ l, pn = l + 1 := ⟨pn - 1, by omega⟩
    exact pl_good name nn names l parts many v ba bn bc bs w hv hm hbs he (err_good he) h6
  · exact pl_bad T v ba bn bc bs w hv hbs he
end Go.Proofs.Ytmbhcpnlfdgkjaa.T
