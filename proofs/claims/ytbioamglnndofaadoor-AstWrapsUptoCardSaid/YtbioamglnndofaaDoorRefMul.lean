/-
  Contract of the reference Mul.
-/
import Derived.Test.YtbioamglnndofaaDoorRefSub
set_option linter.unusedVariables false
set_option linter.unusedSimpArgs false
namespace Go.Proofs.YtbioamglnndofaaDoor
open Go.RowKit Nm

theorem mul_small (x z : Nat) (hx : x < 65536) (hz : z < 65536) : x * z ≤ 4294836225 := Nat.mul_le_mul (show x ≤ 65535 by omega) (show z ≤ 65535 by omega)

theorem vk_mul_lt (xs ys : List Nat) (hx : Dg 65536 xs) (hy : Dg 65536 ys) (i m : Nat) (hm : ys.length = m) : vk xs i * V 65536 ys < 65536 ^ (i + m) := by
  have h1 : vk xs i < 65536 ^ i := by
    unfold vk
    exact Nat.lt_of_lt_of_le (hx.take i).lt (Nat.pow_le_pow_right (by omega) (by rw [List.length_take]; omega))
  have h2 := hy.lt
  rw [hm] at h2
  rw [Nat.pow_add]
  exact Nat.mul_lt_mul'' h1 h2

end Go.Proofs.YtbioamglnndofaaDoor
