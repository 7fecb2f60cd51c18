/-
  Contract of the reference's rows: thirty-one new blocks.
-/
import Derived.Test.YtlkajmfpbgipbaaAstG
import Derived.IntWalk
set_option linter.unusedVariables false
set_option linter.unusedSimpArgs false
namespace Go.Proofs.Ytlkajmfpbgipbaa
open Go.RowKit _root_.Nm Ax
set_option maxHeartbeats 8000000 in
set_option maxRecDepth 100000 in
theorem rows_raw (w : World) : Calls Try.prog 54 #[] w fun e w' => e = .returned (.slice (some ⟨w.heap.size + 30, 0, none⟩) 30 30) ∧ w' = allocs w (rowObjs 3 78 w.heap.size) := by
  go_enter Try.func54, Try.ntmps54
  go_wp2_with fail
  go_ret
  refine ⟨rfl, ?_⟩
  first | rfl | (simp only [allocs, rowObjs, tab, parObj, rowCells, List.map, List.append_eq, List.cons_append, List.nil_append, List.length]; rfl)
theorem rows_any (w : World) : Calls Try.prog 54 #[] w fun e w' => ∃ b, e = .returned (.slice (some ⟨b, 0, none⟩) 30 30) ∧ w.heap.size ≤ b ∧ w.grownBy w' none ∧ RwA w w' b := by
  refine (rows_raw w).mono ?_
  rintro e w' ⟨rfl, rfl⟩
  obtain ⟨h1, h2⟩ := rows_there 3 78 w
  exact ⟨_, rfl, Nat.le_add_right _ _, h1, h2⟩
end Go.Proofs.Ytlkajmfpbgipbaa
