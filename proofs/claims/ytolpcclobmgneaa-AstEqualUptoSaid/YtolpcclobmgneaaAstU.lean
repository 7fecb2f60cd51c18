/-
  Contracts of both functions Depth.
-/
import Derived.Test.YtolpcclobmgneaaAstT
set_option linter.unusedVariables false
set_option linter.unusedSimpArgs false
namespace Go.Proofs.Ytolpcclobmgneaa
open Go.RowKit _root_.Nm
/-- the depth, as the machine counts -/
def depF : Nat → Tr → Int
  | 0, _ => 0
  | m + 1, .node _ l => wrap64 ((l.map (depF m)).foldl max 0 + 1)
def most (m : Nat) (l : List Tr) : Int := (l.map (depF m)).foldl max 0
theorem most_succ (m : Nat) (l : List Tr) {k : Nat} (hk : k < l.length) : most m (l.take (k + 1)) = max (most m (l.take k)) (depF m l[k]) := by
  unfold most
  rw [List.take_add_one, List.map_append, List.foldl_append, List.getElem?_eq_getElem hk]
  rfl
theorem depF_succ (m : Nat) (h : Hd) (l : List Tr) : depF (m + 1) (.node h l) = wrap64 (most m l + 1) := rfl
end Go.Proofs.Ytolpcclobmgneaa
