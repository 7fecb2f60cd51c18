/-
  Contracts of natural.shiftUp and natural.shiftDown: words times, and divided by, a power of 2.
-/
import Derived.Test.YtdmlcddieadelaaSubP
import Derived.Test.YtdmlcddieadelaaDiv64
import Derived.RegionTactic
import Derived.ChangeAlike
set_option linter.unusedVariables false
set_option linter.unusedSimpArgs false
namespace Go.Proofs.Ytdmlcddieadelaa
open Go.RowKit Nm

theorem or_shift (a x n : Nat) (hn : n ≤ 63) (ha : a < 2 ^ n) : bits .or .u64 (a : Int) ((x * 2 ^ n % W64 : Nat) : Int) = ((a + x * 2 ^ n % W64 : Nat) : Int) ∧ a + x * 2 ^ n % W64 < W64 := by
  have hlow := shl_low (x := x) (two_pow_cut n hn)
  have hX : x * 2 ^ n % W64 < W64 := Nat.mod_lt _ (by decide)
  have hj := nat_join n (x * 2 ^ n % W64) a (by rw [hlow]; exact Nat.mul_mod_left _ _) ha
  have hb : a + x * 2 ^ n % W64 < W64 := by
    have h1 : x % 2 ^ (64 - n) < 2 ^ (64 - n) := Nat.mod_lt _ (Nat.pow_pos (by omega))
    have h2 := Nat.mul_le_mul_right (2 ^ n) (show x % 2 ^ (64 - n) + 1 ≤ 2 ^ (64 - n) from h1)
    rw [Nat.add_mul, Nat.one_mul, Nat.mul_comm (2 ^ (64 - n)), two_pow_cut n hn, ← hlow] at h2
    omega
  have ha2 : a < W64 := Nat.lt_of_le_of_lt (Nat.le_add_right _ _) hb
  refine ⟨?_, hb⟩
  rw [bits_or_u64_nat _ _ ha2 hX, Nat.or_comm, hj, Nat.add_comm]

end Go.Proofs.Ytdmlcddieadelaa
