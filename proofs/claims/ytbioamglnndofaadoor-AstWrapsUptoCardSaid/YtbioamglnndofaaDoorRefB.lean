/-
  Contracts of the reference: Cmp, Of.
-/
import Derived.Test.YtbioamglnndofaaDoorRefA
set_option linter.unusedVariables false
set_option linter.unusedSimpArgs false
namespace Go.Proofs.YtbioamglnndofaaDoor
open Go.RowKit Nm

/-- limb i of a list, 0 behind its end -/
def lb (xs : List Nat) (i : Nat) : Nat := xs[i]?.getD 0
theorem lb_lt {xs : List Nat} (h : Dg 65536 xs) (i : Nat) : lb xs i < 65536 := by
  unfold lb
  by_cases hi : i < xs.length
  · rw [List.getElem?_eq_getElem hi]; exact h.get i hi
  · rw [List.getElem?_eq_none (by omega)]; decide

theorem lb_pad (xs : List Nat) (L i : Nat) (h : i < L) (hl : xs.length ≤ L) : (xs ++ List.replicate (L - xs.length) 0)[i]? = some (lb xs i) := by
  unfold lb
  by_cases hi : i < xs.length
  · rw [List.getElem?_append_left hi, List.getElem?_eq_getElem hi]; rfl
  · rw [List.getElem?_append_right (by omega), List.getElem?_replicate, if_pos (by omega), List.getElem?_eq_none (by omega)]; rfl

theorem cmp_limbs {xs ys : List Nat} (hx : Dg 65536 xs) (hy : Dg 65536 ys) (L i : Nat) (h1 : xs.length ≤ L) (h2 : ys.length ≤ L) (hi : i < L)
    (ht : ∀ j, i < j → j < L → lb xs j = lb ys j) (hlt : lb xs i < lb ys i) : V 65536 xs < V 65536 ys := by
  have e : ∀ zs : List Nat, V 65536 (zs ++ List.replicate (L - zs.length) 0) = V 65536 zs := fun zs => by simp [V_append, V_zeros]
  have l : ∀ zs : List Nat, zs.length ≤ L → (zs ++ List.replicate (L - zs.length) 0).length = L := fun zs h => by simp; omega
  rw [← e xs, ← e ys]
  have p1 := lb_pad xs L i hi h1
  have p2 := lb_pad ys L i hi h2
  refine cmp_of_top i (hx.append (Dg.zeros (by omega) _)) (by rw [l xs h1, l ys h2]) (by rw [l xs h1]; exact hi) ?_ ?_
  · apply List.ext_getElem?
    intro j
    rw [List.getElem?_drop, List.getElem?_drop]
    by_cases hj : i + 1 + j < L
    · rw [lb_pad xs L _ hj h1, lb_pad ys L _ hj h2, ht _ (by omega) hj]
    · rw [List.getElem?_eq_none (by rw [l xs h1]; omega), List.getElem?_eq_none (by rw [l ys h2]; omega)]
  · rw [List.getElem?_eq_getElem (by rw [l xs h1]; exact hi)] at p1
    rw [List.getElem?_eq_getElem (by rw [l ys h2]; exact hi)] at p2
    simp only [Option.some.injEq] at p1 p2
    rw [p1, p2]; exact hlt

theorem eq_limbs {xs ys : List Nat} (L : Nat) (h1 : xs.length ≤ L) (h2 : ys.length ≤ L) (ht : ∀ j, j < L → lb xs j = lb ys j) : V 65536 xs = V 65536 ys := by
  have e : ∀ zs : List Nat, V 65536 (zs ++ List.replicate (L - zs.length) 0) = V 65536 zs := fun zs => by simp [V_append, V_zeros]
  rw [← e xs, ← e ys]
  congr 1
  apply List.ext_getElem?
  intro j
  by_cases hj : j < L
  · rw [lb_pad xs L _ hj h1, lb_pad ys L _ hj h2, ht _ hj]
  · rw [List.getElem?_eq_none (by simp; omega), List.getElem?_eq_none (by simp; omega)]


end Go.Proofs.YtbioamglnndofaaDoor
