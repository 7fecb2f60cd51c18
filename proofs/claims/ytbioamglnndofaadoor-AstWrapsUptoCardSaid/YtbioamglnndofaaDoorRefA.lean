/-
  Contracts of the reference: Norm, short, limb.
-/
import Derived.Test.YtbioamglnndofaaDoorCmp
import Derived.Test.YtbioamglnndofaaDoorOwn
import Derived.Deep.DeepCutAuto
set_option linter.unusedVariables false
set_option linter.unusedSimpArgs false
namespace Go.Proofs.YtbioamglnndofaaDoor
open Go.RowKit Nm

theorem info16 : (Tryd.prog.info? 69).map (fun i => (i.zero, i.size, i.bytes)) = some (some (.int .u16 0), 1, 2) := by kernel_rfl


theorem dg_step (r : Nat) (h : 0 < r) : dg 65536 r = r % 65536 :: dg 65536 (r / 65536) := by
  have hv : V 65536 (r % 65536 :: dg 65536 (r / 65536)) = r := by rw [V_cons, V_dg (by omega)]; omega
  have hc := Can_dg (B := 65536) (by omega) (r / 65536)
  have : Nm.Can 65536 (r % 65536 :: dg 65536 (r / 65536)) := by
    refine ⟨Dg.cons (Nat.mod_lt _ (by omega)) hc.1, ?_⟩
    by_cases h0 : r / 65536 = 0
    · rw [h0]; simp [dg_zero]; omega
    · cases e : dg 65536 (r / 65536) with
      | nil => have := V_dg (B := 65536) (by omega) (r / 65536); rw [e] at this; simp at this; omega
      | cons y ys => rw [List.getLast?_cons_cons, ← e]; exact hc.2
  have e := eq_dg (by omega) this
  rw [hv] at e
  exact e.symm


end Go.Proofs.YtbioamglnndofaaDoor
