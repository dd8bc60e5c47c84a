/-
  Carried over and put together: contracts of this program's functions, and plain facts. No statement is proved in this text.
-/
import Derived.Lib.SmallJoins
import Derived.Deep.SlicePairs
import Derived.Test.YtjlnnmjhbccdoaaGreatO01
import Derived.Test.YtjlnnmjhbccdoaaGreatO29
set_option maxRecDepth 20000
namespace Go.Proofs.YtjlnnmjhbccdoaaGreat
open Go.RowKit Go.WideShapes Go.ChangeShapes Go.ChangeAt
section
variable {H : Type} {enc : TypeId × Value → H}
theorem vcells3 : Tryz.prog.cellsOf 3 = 1 := by kernel_rfl
theorem vcells5 : Tryz.prog.cellsOf 5 = 1 := by kernel_rfl
end
end Go.Proofs.YtjlnnmjhbccdoaaGreat
