/- What the listed errors of the library hold: something that is not nil. -/
import Derived.Test.YtplenmhkhaoapaaDoorLaid
namespace Go.Proofs.YtplenmhkhaoapaaDoor.L
open Go.ChangeShapes Go.WideShapes Go.ChangeAt Go.RowKit Go.Proofs.YtplenmhkhaoapaaDoor.W Go.Proofs.YtplenmhkhaoapaaDoor.M
theorem g_es : Tryd.prog.globalNamed "strconv.ErrSyntax" = some 2 := by kernel_rfl
theorem g_er : Tryd.prog.globalNamed "strconv.ErrRange" = some 3 := by kernel_rfl
theorem t_es : (Tryd.prog.globals[2]?).map (·.type) = some 47 := by kernel_rfl
theorem t_er : (Tryd.prog.globals[3]?).map (·.type) = some 47 := by kernel_rfl
theorem star : "*" ++ "errors.errorString" = "*errors.errorString" := by decide
theorem row110 (u : TypeId) (h : Tryd.prog.typeName? 3 u = some "*errors.errorString") : u = 110 :=
  typeName_ptr_named (nm := "errors.errorString") (by rw [star]; kernel_rfl) (by kernel_rfl) (by decide) u (by rw [star]; exact h)
theorem c_112 : Tryd.prog.cellsOf 112 = 1 := by kernel_rfl
theorem es_of {W : World} {r : List (String × DataW Unit)} (h : laidMet Tryd.prog (("strconv.ErrSyntax", Rows.laid_strconv_ErrSyntax) :: r) W) : ∃ te pe, W.cell? ⟨2, 0, none⟩ = some (.iface te pe) := by
  obtain ⟨a, s, hv, _⟩ := laid_sentinel h g_es t_es Tryd.underlying47 row110 Tryd.underlying110 Tryd.underlying112 rfl rfl Tryd.underlying9 c_112 c_9
  exact ⟨_, _, by rw [World.var?_cell g_es hv 0]; rfl⟩
theorem er_of {W : World} {r : List (String × DataW Unit)} (h : laidMet Tryd.prog (("strconv.ErrRange", Rows.laid_strconv_ErrRange) :: r) W) : ∃ te pe, W.cell? ⟨3, 0, none⟩ = some (.iface te pe) := by
  obtain ⟨a, s, hv, _⟩ := laid_sentinel h g_er t_er Tryd.underlying47 row110 Tryd.underlying110 Tryd.underlying112 rfl rfl Tryd.underlying9 c_112 c_9
  exact ⟨_, _, by rw [World.var?_cell g_er hv 0]; rfl⟩
end Go.Proofs.YtplenmhkhaoapaaDoor.L
