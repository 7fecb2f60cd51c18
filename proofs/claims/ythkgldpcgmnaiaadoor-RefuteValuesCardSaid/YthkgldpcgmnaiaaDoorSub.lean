/-
  Contracts of natural.Sub.
-/
import Derived.Test.YthkgldpcgmnaiaaDoorAdd
set_option linter.unusedVariables false
set_option linter.unusedSimpArgs false
namespace Go.Proofs.YthkgldpcgmnaiaaDoor
open Go.RowKit Nm

/-- a borrow at place k of a difference that is not negative -/
theorem borrow_place {B v k c M N l : Nat} (e : v + N = M + B ^ k * c) (hN : N ≤ M) (hv : v < B ^ l) (hc : c ≠ 0) (hB : 1 < B) : k < l := by
  refine Nat.lt_of_not_le fun h => ?_
  have h1 : B ^ l ≤ B ^ k := Nat.pow_le_pow_right (by omega) h
  have h2 : B ^ k * 1 ≤ B ^ k * c := Nat.mul_le_mul_left _ (by omega)
  omega


theorem borrow_bit (x y c : Nat) (hx : x < 65536) (hy : y < 65536) (hc : c ≤ 1) :
    bits .and .u32 (((x : Int) - y - c) % 4294967296 / 65536) 1 = ((if x < y + c then 1 else 0 : Nat) : Int) ∧ IntKind.u16.wrap (((x : Int) - y - c) % 4294967296) = (((x + 65536 - y - c) % 65536 : Nat) : Int) ∧
      (x + 65536 - y - c) % 65536 + (y + c) = x + 65536 * (if x < y + c then 1 else 0) := by
  refine ⟨?_, by rw [IntKind.wrap_u16]; omega, by split <;> omega⟩
  obtain ⟨z, hz⟩ : ∃ z : Nat, ((x : Int) - y - c) % 4294967296 / 65536 = (z : Int) := ⟨(((x : Int) - y - c) % 4294967296 / 65536).toNat, by omega⟩
  rw [hz, show (1 : Int) = ((1 : Nat) : Int) from rfl, u32_and_nat z 1 (by omega) (by omega), nat_mask1]
  split <;> omega

end Go.Proofs.YthkgldpcgmnaiaaDoor
