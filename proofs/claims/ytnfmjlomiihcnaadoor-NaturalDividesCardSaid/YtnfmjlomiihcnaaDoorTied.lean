/-
  What a tied row's condition gives the walks: the table of package math/bits.
-/
import Derived.Test.YtnfmjlomiihcnaaDoorOpen
import Derived.Test.YtnfmjlomiihcnaaDoorGcdW
import Derived.Test.YtnfmjlomiihcnaaDoorTie
import Derived.Test.YtnfmjlomiihcnaaDoorCards
import Derived.LaidMore
import Derived.Lib.LaidTab
import Derived.Stop.Joined
import Derived.SevenTiedAt
set_option linter.unusedVariables false
set_option linter.unusedSimpArgs false
namespace Go.Proofs.YtnfmjlomiihcnaaDoor
open Go.ChangeShapes Go.WideShapes Go.ChangeAt Go.RowKit Nm

theorem gTab : Tryd.prog.globalNamed "math/bits.deBruijn64tab" = some 2 := by kernel_rfl
theorem tTab : (Tryd.prog.globals[2]?).map (·.type) = some 112 := by kernel_rfl
theorem tab_data : (Rows.laid_math_bits_deBruijn64tab : DataW Unit) = Lib.tabData .u8 (Lib.deBruijn64tab.map Int.ofNat) := by rfl
theorem tb_of_tab {W : World} (h : Lib.TabIs Tryd.prog W "math/bits.deBruijn64tab" .u8 (Lib.deBruijn64tab.map Int.ofNat)) : Tb W := by
  intro j hj
  have hl : (Lib.deBruijn64tab.map Int.ofNat).length = 64 := by rfl
  have := h.cell gTab j (by omega)
  rw [this]
  congr 2
  have hl2 : Lib.deBruijn64tab.length = 64 := by rfl
  simp [List.getD, hl2, hj]
theorem tb_of_laid {W : World} (h : laidMetH Tryd.prog [("math/bits.deBruijn64tab", Rows.laid_math_bits_deBruijn64tab)] W) : Tb W := by
  rw [MakeChecks.laidMetH_plain _ _ _ (by kernel_rfl), tab_data] at h
  exact tb_of_tab (Lib.tabIs_of_head gTab tTab Tryd.underlying112 Tryd.underlying5 (by kernel_rfl) (by kernel_rfl) h)
end Go.Proofs.YtnfmjlomiihcnaaDoor
