/-
  Contracts of math/bits.LeadingZeros64 and math/bits.Div64: the leading zeros of a word that is not 0; the quotient and the rest of two words by a greater word.
-/
import Derived.Test.YtdmlcddieadelaaLens
import Derived.Test.YtdmlcddieadelaaDivA
import Derived.Deep.CutBlock
import Derived.Deep.DeepCutAuto
set_option linter.unusedVariables false
set_option linter.unusedSimpArgs false
namespace Go.Proofs.Ytdmlcddieadelaa
open Go.RowKit Nm

/-- s is the distance by which x must be shifted so that its highest bit is set -/
def IsLz (x s : Nat) : Prop := s ≤ 63 ∧ 9223372036854775808 ≤ x * 2 ^ s ∧ x * 2 ^ s < 18446744073709551616
theorem isLz_of (x l : Nat) (h : 1 ≤ l ∧ 2 ^ (l - 1) ≤ x ∧ x < 2 ^ l) (hl : l ≤ 64) : IsLz x (64 - l) := by
  obtain ⟨h1, h2, h3⟩ := h
  have p : 0 < 2 ^ (64 - l) := Nat.pow_pos (by omega)
  refine ⟨by omega, ?_, ?_⟩
  · have := Nat.mul_le_mul_right (2 ^ (64 - l)) h2
    rw [← Nat.pow_add, show l - 1 + (64 - l) = 63 by omega] at this
    exact this
  · have := Nat.mul_lt_mul_of_pos_right h3 p
    rw [← Nat.pow_add, show l + (64 - l) = 64 by omega] at this
    exact this

theorem two_pow_cut (s : Nat) (hs : s ≤ 63) : 2 ^ s * 2 ^ (64 - s) = W64 := by rw [← Nat.pow_add, show s + (64 - s) = 64 by omega]; decide
theorem Dq_qlt {B y1 y0 n u q r : Nat} (h : Dq B y1 y0 n u q r) (hy : 0 < y1) : q ≤ n := by
  have := h.e
  have := Nat.le_mul_of_pos_right q hy
  omega
theorem tuple2_eq {a b c d : Value} (h : a = b) (k : c = d) : Value.tuple #[a, c] = Value.tuple #[b, d] := by rw [h, k]
theorem bits64 : 2 ^ IntKind.u64.bits = 18446744073709551616 := by decide
theorem wrap_shl (n : Nat) : IntKind.u64.wrap (n : Int) = ((n % 2 ^ IntKind.u64.bits : Nat) : Int) := by rw [bits64]; exact wrap_mod n

end Go.Proofs.Ytdmlcddieadelaa
