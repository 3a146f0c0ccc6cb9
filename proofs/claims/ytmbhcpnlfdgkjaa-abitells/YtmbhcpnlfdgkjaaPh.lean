/- The contract of the reference's Places. -/
import Derived.Test.YtmbhcpnlfdgkjaaPgAF
import Derived.Test.YtmbhcpnlfdgkjaaPgAT
import Derived.Test.YtmbhcpnlfdgkjaaPgBF
import Derived.Test.YtmbhcpnlfdgkjaaPgBT
import Derived.Test.YtmbhcpnlfdgkjaaPgCF
import Derived.Test.YtmbhcpnlfdgkjaaPgCT
namespace Go.Proofs.Ytmbhcpnlfdgkjaa.T
open Go.RowKit
theorem places_any (T : Ty) (v : Value) (ba : Option Addr) (bn bc : Nat) (bs : Nat → Ty) (w : World) (hv : TyV w T v) (hbs : Tys w (.slice ba bn bc) bn bs) : Calls Try.prog 6 #[v, .slice ba bn bc] w (PostP w T bn bs) := by
  have hbn : bn ≤ 9223372036854775807 := by obtain ⟨a, c, e, h1, h2, _⟩ := hbs; omega
  by_cases hk : kindT T = 4
  case neg => exact places_1 T v _ bn bs w hv hk
  cases hm : mayN 4 T
  · exact places_2 T v _ bn bs w hv hk hm
  by_cases hr : 6 < bn ∨ (0 < bn ∧ manyT T = false)
  · exact places_3 T v ba bn bc bs w hv hk hm hbn hr
  obtain ⟨name, nn, names, pn, parts, many, rfl, hp1, hp7, -⟩ := good_facts hk hm
  obtain ⟨l, rfl⟩ : ∃ l, pn = l + 1 := ⟨pn - 1, by omega⟩
  have h6 : ¬ 6 < bn := fun h => hr (Or.inl h)
  by_cases h2 : 2 < sizeT (parts l)
  · cases many
    · exact places_af name nn names l parts v ba bn bc bs w hv hm hbs h6 (by by_cases h0 : bn = 0; exact h0; exact absurd (Or.inr ⟨by omega, rfl⟩) hr) h2
    · exact places_at name nn names l parts v ba bn bc bs w hv hm hbs h6 h2
  by_cases h3 : sizeT (parts l) = 2
  · cases many
    · exact places_bf name nn names l parts v ba bn bc bs w hv hm hbs h6 (by by_cases h0 : bn = 0; exact h0; exact absurd (Or.inr ⟨by omega, rfl⟩) hr) h3
    · exact places_bt name nn names l parts v ba bn bc bs w hv hm hbs h6 h3
  · cases many
    · exact places_cf name nn names l parts v ba bn bc bs w hv hm hbs h6 (by by_cases h0 : bn = 0; exact h0; exact absurd (Or.inr ⟨by omega, rfl⟩) hr) ⟨h2, h3⟩
    · exact places_ct name nn names l parts v ba bn bc bs w hv hm hbs h6 ⟨h2, h3⟩
end Go.Proofs.Ytmbhcpnlfdgkjaa.T
