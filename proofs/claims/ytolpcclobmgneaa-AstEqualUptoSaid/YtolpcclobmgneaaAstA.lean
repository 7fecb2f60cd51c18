/-
  slices.Repeat at a slice of one 1; points.
-/
import Derived.Test.YtolpcclobmgneaaProg
import Derived.Test.YtolpcclobmgneaaMem
import Derived.Test.YtolpcclobmgneaaOwn
import Derived.Shelf.Bits.Mul64
import Derived.StillTailTactics
import Derived.Deep.DeepCutAuto
import Derived.IntWalk
set_option linter.unusedVariables false
set_option linter.unusedSimpArgs false
namespace Go.Proofs.Ytolpcclobmgneaa
open Go.Shelf Go.RowKit _root_.Nm
set_option maxRecDepth 100000
/-- the address is a new one -/
def Frs (w : World) (p : Option Addr) : Prop := ∀ a, p = some a → w.heap.size ≤ a.block
theorem infoInt : (Try.prog.info? 3).map (fun i => (i.zero, i.size, i.bytes)) = some (some (.int .i64 0), 1, 8) := by kernel_rfl
theorem sizeInt : (Try.prog.info? 3).map (·.size) = some 1 := by kernel_rfl
def ones (m n : Nat) : List Nat := List.replicate m 1 ++ List.replicate (n - m) 0
theorem ones_len {m n : Nat} (h : m ≤ n) : (ones m n).length = n := by simp [ones]; omega
theorem ones_take {m n : Nat} (h : m ≤ n) : (ones m n).take m = List.replicate m 1 := by
  unfold ones; rw [List.take_left' (by simp)]
theorem ones_splice {m n : Nat} (h : m ≤ n) : splice (ones m n) m ((List.replicate m 1).take (n - m)) = ones (m + min m (n - m)) n := by
  unfold splice ones
  rw [List.take_left' (by simp), List.take_replicate, List.length_replicate, List.drop_append, List.length_replicate, List.drop_of_length_le (by simp), List.nil_append, List.drop_replicate, ← List.append_assoc, List.replicate_append_replicate]
  rw [show m + min (n - m) m = m + min m (n - m) by omega, show n - m - (m + min m (n - m) - m) = n - (m + min m (n - m)) by omega]


end Go.Proofs.Ytolpcclobmgneaa
