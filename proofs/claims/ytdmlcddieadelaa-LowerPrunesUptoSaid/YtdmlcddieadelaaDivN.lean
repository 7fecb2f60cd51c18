/-
  Contract of natural.DivMod: the quotient and the rest of any numbers, or the error.
-/
import Derived.Test.YtdmlcddieadelaaDivS
import Derived.Test.YtdmlcddieadelaaDivide
import Derived.Test.YtdmlcddieadelaaVal
set_option linter.unusedVariables false
set_option linter.unusedSimpArgs false
namespace Go.Proofs.Ytdmlcddieadelaa
open Go.RowKit Nm

theorem IsC.len_le {w : World} {p : Option Addr} {n c N k : Nat} (h : IsC w p n c N) (hN : N < 65536 ^ k) : n ≤ k := by rw [← h.len]; exact dg_length_le (by omega) hN


theorem len_words {ys : List Nat} (h : Nm.Can 65536 ys) (hl : 4 < ys.length) (vs : List Nat) (hv : Dg W64 vs) (m : Nat) (hm : m + 2 = (ys.length + 3) / 4) (lv : vs.length = m + 2) (e : V W64 vs = V 65536 ys) :
    ∀ t, vs[m + 1]? = some t → 0 < t := by
  intro t ht
  rcases Nat.eq_zero_or_pos t with h0 | h0
  · exfalso
    subst h0
    have hvl : m + 1 < vs.length := by omega
    rw [List.getElem?_eq_getElem hvl] at ht
    have a1 := V_take_drop (B := W64) vs (m + 1) (by omega)
    have a2 := V_drop_succ (B := W64) vs (m + 1) hvl
    rw [show vs.drop (m + 1 + 1) = [] from List.drop_of_length_le (by omega), Option.some.inj ht] at a2
    simp only [V_nil, Nat.mul_zero, Nat.add_zero] at a2
    rw [a2, Nat.mul_zero, Nat.add_zero] at a1
    have a3 := (hv.take (m + 1)).lt
    rw [List.length_take, Nat.min_eq_left (by omega), ← a1, e, W64_eq, ← Nat.pow_mul] at a3
    have a4 := h.low (by omega) (by intro e; subst e; simp at hl)
    have a5 : 65536 ^ (4 * (m + 1)) ≤ 65536 ^ (ys.length - 1) := Nat.pow_le_pow_right (by omega) (by omega)
    omega
  · exact h0


section
variable {w w' : World} {p q : Option Addr} {n c m d N M : Nat}

end
end Go.Proofs.Ytdmlcddieadelaa
