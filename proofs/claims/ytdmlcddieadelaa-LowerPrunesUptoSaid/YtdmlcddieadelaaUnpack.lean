/-
  Contract of natural.unpack: words become canonical limbs.
-/
import Derived.Test.YtdmlcddieadelaaWords
import Derived.Test.YtdmlcddieadelaaLens
set_option linter.unusedVariables false
set_option linter.unusedSimpArgs false
namespace Go.Proofs.Ytdmlcddieadelaa
open Go.RowKit Nm

theorem W64_eq : W64 = 65536 ^ 4 := by decide

/-- limb i of a number is a part of its word i / 4 -/
theorem limb_of_word (N i : Nat) : N / W64 ^ (i / 4) % W64 / 2 ^ (i % 4 * 16) % 65536 = N / 65536 ^ i % 65536 := by
  have hj : i % 4 < 4 := Nat.mod_lt _ (by decide)
  have e2 : 2 ^ (i % 4 * 16) = 65536 ^ (i % 4) := by rw [Nat.mul_comm, Nat.pow_mul]
  have e3 : 65536 ^ i = W64 ^ (i / 4) * 65536 ^ (i % 4) := by
    rw [W64_eq, ← Nat.pow_mul, ← Nat.pow_add, Nat.div_add_mod]
  have e4 : W64 = 65536 ^ (i % 4) * 65536 ^ (4 - i % 4) := by rw [W64_eq, ← Nat.pow_add]; congr 1; omega
  rw [e2, e3, ← Nat.div_div_eq_div_mul]
  generalize N / W64 ^ (i / 4) = M
  rw [e4, Nat.mod_mul_right_div_self]
  exact Nat.mod_mod_of_dvd _ ⟨65536 ^ (3 - i % 4), by rw [← Nat.pow_succ']; congr 1; omega⟩

theorem unpack_size (xs : List Nat) (hd : Dg W64 xs) (top l : Nat) (ht : xs.length = top + 1) (t : Nat) (hg : xs[top]? = some t) (h0 : t ≠ 0) (hl : l = Lib.bitLen t) :
    V W64 xs < 65536 ^ (top * 4 + (l + 15) / 16) ∧ 65536 ^ (top * 4 + (l + 15) / 16 - 1) ≤ V W64 xs ∧ 1 ≤ l := by
  obtain ⟨htl, rfl⟩ := List.getElem?_eq_some_iff.1 hg
  have e := V_take_drop (B := W64) xs top (by omega)
  rw [V_drop_succ xs top htl, List.drop_of_length_le (by omega)] at e
  simp only [V_nil, Nat.mul_zero, Nat.add_zero] at e
  have h1 := (hd.take top).lt
  rw [List.length_take, Nat.min_eq_left (by omega)] at h1
  rcases bitLen_spec xs[top] (hd.get top htl) with ⟨h, _⟩ | ⟨b1, b2, b3⟩
  · exact absurd h h0
  rw [← hl] at b1 b2 b3
  generalize xs[top] = t at *
  have w4 : W64 ^ top = 65536 ^ (top * 4) := by rw [W64_eq, ← Nat.pow_mul, Nat.mul_comm]
  rw [w4] at e h1
  refine ⟨?_, ?_, b1⟩
  · have c1 : t < 65536 ^ ((l + 15) / 16) := by
      refine Nat.lt_of_lt_of_le b3 ?_
      rw [show (65536 : Nat) = 2 ^ 16 from rfl, ← Nat.pow_mul]
      exact Nat.pow_le_pow_right (by omega) (by omega)
    rw [Nat.pow_add]
    have c2 : 65536 ^ (top * 4) * (t + 1) ≤ 65536 ^ (top * 4) * 65536 ^ ((l + 15) / 16) := Nat.mul_le_mul_left _ c1
    rw [Nat.mul_add, Nat.mul_one] at c2
    omega
  · have c1 : 65536 ^ ((l + 15) / 16 - 1) ≤ t := by
      refine Nat.le_trans ?_ b2
      rw [show (65536 : Nat) = 2 ^ 16 from rfl, ← Nat.pow_mul]
      exact Nat.pow_le_pow_right (by omega) (by omega)
    rw [show top * 4 + (l + 15) / 16 - 1 = top * 4 + ((l + 15) / 16 - 1) by omega, Nat.pow_add, e]
    exact Nat.le_trans (Nat.mul_le_mul_left _ c1) (Nat.le_add_left _ _)

end Go.Proofs.Ytdmlcddieadelaa
