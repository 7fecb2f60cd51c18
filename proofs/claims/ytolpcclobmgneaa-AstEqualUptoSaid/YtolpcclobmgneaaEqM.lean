/-
  Equality of trees, apart from positions; trees with other positions.
-/
import Derived.Test.YtolpcclobmgneaaAstT
set_option linter.unusedVariables false
set_option linter.unusedSimpArgs false
namespace Go.Proofs.Ytolpcclobmgneaa
open Go.RowKit _root_.Nm
/-- equal apart from the positions, up to a depth -/
def EqP : Nat → Tr → Tr → Prop
  | 0, _, _ => False
  | m + 1, .node h l, .node h' l' => (h.k = h'.k ∧ h.nm = h'.nm ∧ (h.g = h'.g ∧ h.num = h'.num ∧ h.den = h'.den)) ∧ l.length = l'.length ∧ ∀ i (hi : i < l.length) (hi' : i < l'.length), EqP m l[i] l'[i]
/-- the tree with its positions moved, as the machine counts -/
def movF : Nat → Int → Tr → Tr
  | 0, _, t => t
  | m + 1, d, .node h l => .node { h with pos := wrap64 (h.pos + d) } (l.map (movF m (wrap64 (d + 1))))
theorem movF_succ (m : Nat) (d : Int) (h : Hd) (l : List Tr) : movF (m + 1) d (.node h l) = .node { h with pos := wrap64 (h.pos + d) } (l.map (movF m (wrap64 (d + 1)))) := rfl
theorem EqP.mov {w : World} : ∀ {m : Nat} {cs : List Value} {t : Tr} (d : Int), ERd w m cs t → EqP m t (movF m d t)
  | 0, _, _, _, h => h.elim
  | m + 1, cs, .node h l, d, ⟨pn, nn, cn, pd, nd, cd, pa, na, ca, h1, h2, h3, h4, h5⟩ => by
    refine ⟨⟨rfl, rfl, rfl, rfl, rfl⟩, by simp, fun i hi hi' => ?_⟩
    obtain ⟨b, o, cs', k1, k2, k3, k4⟩ := h5 i hi
    rw [List.getElem_map]
    exact EqP.mov _ k4
/-- every list of the tree has at most N elements -/
def Nar (N : Nat) : Nat → Tr → Prop
  | 0, _ => True
  | m + 1, .node _ l => l.length ≤ N ∧ ∀ i (hi : i < l.length), Nar N m l[i]
end Go.Proofs.Ytolpcclobmgneaa
