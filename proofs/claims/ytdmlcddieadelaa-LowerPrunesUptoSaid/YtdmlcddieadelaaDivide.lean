/-
  Contract of natural.divide: the division by hand.
-/
import Derived.Test.YtdmlcddieadelaaDigit
import Derived.Test.YtdmlcddieadelaaDivW
import Derived.Test.YtdmlcddieadelaaDivB
import Derived.Deep.CutBlock
import Derived.Deep.DeepCutAuto
set_option linter.unusedVariables false
set_option linter.unusedSimpArgs false
namespace Go.Proofs.Ytdmlcddieadelaa
open Go.RowKit Nm

theorem boxes2 (w : World) (x y : Nat) (T : TypeId) :
    ((w.alloc (.cells #[.int .u64 x] T)).alloc (.cells #[.int .u64 y] T)).drew.cell? ⟨w.heap.size, 0, none⟩ = some (.int .u64 x) ∧
    ((w.alloc (.cells #[.int .u64 x] T)).alloc (.cells #[.int .u64 y] T)).drew.cell? ⟨w.heap.size + 1, 0, none⟩ = some (.int .u64 y) ∧
    w.grownBy ((w.alloc (.cells #[.int .u64 x] T)).alloc (.cells #[.int .u64 y] T)).drew none := by
  refine ⟨?_, ?_, ?_⟩
  · refine (grown_drew _ none).cell ((World.grownBy_alloc _ _ none).cell ?_ (by simp)) (by simp)
    exact (by simp [go_sem])
  · refine (grown_drew _ none).cell ?_ (by simp)
    exact (by simp [go_sem])
  · exact grown_trans (grown_trans (World.grownBy_alloc _ _ none) (World.grownBy_alloc _ _ none)) (grown_drew _ none)

end Go.Proofs.Ytdmlcddieadelaa
