/- What package object answers. -/
import Derived.Test.YtnjcknlfecednaaQh
import Derived.Test.YtnjcknlfecednaaQm
import Derived.Test.YtnjcknlfecednaaLw
namespace Go.Proofs.Ytnjcknlfecednaa.T
open Go.RowKit Go.Proofs.Ytnjcknlfecednaa.M
theorem pr17 : Pr17 := ⟨fun o v w h => pmay_any o v w h, fun o v w h hm => pput_ok o v w h hm, fun o v w h hm => (pput_bad o v w h hm).mono fun e w' ⟨he, hb⟩ => ⟨_, he, ⟨none, 0, rfl, Nat.le_refl _, by omega, fun h => absurd h (by simp)⟩, hb⟩, fun a n c raw w h => pget_any a n c raw w h⟩
end Go.Proofs.Ytnjcknlfecednaa.T
