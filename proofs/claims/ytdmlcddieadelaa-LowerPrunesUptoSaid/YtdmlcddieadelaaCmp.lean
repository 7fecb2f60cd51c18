/-
  Contracts of cmp.Compare and natural.Cmp.
-/
import Derived.Test.YtdmlcddieadelaaPack
set_option linter.unusedVariables false
set_option linter.unusedSimpArgs false
namespace Go.Proofs.Ytdmlcddieadelaa
open Go.RowKit Nm

/-- the order of two numbers as -1, 0, 1 -/
def cmpI (x y : Int) : Int := if x < y then -1 else if y < x then 1 else 0

theorem cmpI_lt {x y : Nat} (h : x < y) : cmpI x y = -1 := if_pos (by omega)
theorem cmpI_gt {x y : Nat} (h : y < x) : cmpI x y = 1 := by unfold cmpI; rw [if_neg (by omega), if_pos (by omega)]
theorem cmpI_eq (x : Int) : cmpI x x = 0 := by unfold cmpI; rw [if_neg (by omega), if_neg (by omega)]
theorem cmpI_congr {x y x' y' : Nat} (h1 : x < y → x' < y') (h2 : y < x → y' < x') (h3 : x = y → x' = y') : cmpI x y = cmpI x' y' := by
  rcases Nat.lt_trichotomy x y with h | h | h
  · rw [cmpI_lt h, cmpI_lt (h1 h)]
  · have := h3 h; subst h; subst this; rw [cmpI_eq, cmpI_eq]
  · rw [cmpI_gt h, cmpI_gt (h2 h)]

end Go.Proofs.Ytdmlcddieadelaa
