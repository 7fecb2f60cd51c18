/-
  The first examples of package natural hold.
-/
import Derived.Test.YtcmbdnkfihanmaaDivS
set_option linter.unusedVariables false
set_option linter.unusedSimpArgs false
namespace Go.Proofs.Ytcmbdnkfihanmaa
open Go.RowKit Nm

theorem trimR_one (x : Nat) (h : x ≠ 0) : trimR [x] = [x] := by simp [trimR, h]

theorem dg_small (x : Nat) (h : 0 < x) (hb : x < 65536) : dg 65536 x = [x] := by
  rw [dg_step x h, Nat.mod_eq_of_lt hb, Nat.div_eq_of_lt hb, dg_zero]

end Go.Proofs.Ytcmbdnkfihanmaa
