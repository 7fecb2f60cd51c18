/-
  Contract of natural.Add.
-/
import Derived.Test.YthkgldpcgmnaiaaDoorCmp
import Derived.Deep.DeepCutAuto
set_option linter.unusedVariables false
set_option linter.unusedSimpArgs false
namespace Go.Proofs.YthkgldpcgmnaiaaDoor
open Go.RowKit Nm

theorem splice_zeros (xs : List Nat) (n : Nat) (h : xs.length ≤ n) : splice (List.replicate n 0) 0 xs = xs ++ List.replicate (n - xs.length) 0 := by
  simp [splice]

theorem add_lt {ps qs : List Nat} (hp : Dg 65536 ps) (hq : Dg 65536 qs) (h : qs.length ≤ ps.length) : V 65536 ps + V 65536 qs < 65536 ^ (ps.length + 1) := by
  have h1 := hp.lt
  have h2 := hq.lt
  have h3 : 65536 ^ qs.length ≤ 65536 ^ ps.length := Nat.pow_le_pow_right (by omega) h
  rw [Nat.pow_succ]; omega

/-- a carry at place k of a sum that has no more than l places -/
theorem carry_place {B v k c N l : Nat} (e : v + B ^ k * c = N) (hN : N < B ^ l) (hc : c ≠ 0) (hB : 1 < B) : k < l := by
  refine Nat.lt_of_not_le fun h => ?_
  have h1 : B ^ l ≤ B ^ k := Nat.pow_le_pow_right (by omega) h
  have h2 : B ^ k * 1 ≤ B ^ k * c := Nat.mul_le_mul_left _ (by omega)
  omega

end Go.Proofs.YthkgldpcgmnaiaaDoor
