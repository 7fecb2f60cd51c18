/-
  Contract of the reference Add.
-/
import Derived.Test.YtdmlcddieadelaaVal
set_option linter.unusedVariables false
set_option linter.unusedSimpArgs false
namespace Go.Proofs.Ytdmlcddieadelaa
open Go.RowKit Nm

/-- the value of the first k limbs, counted behind the end as zeros -/
def vk (xs : List Nat) (k : Nat) : Nat := V 65536 (xs.take k)
theorem vk_succ (xs : List Nat) (k : Nat) : vk xs (k + 1) = vk xs k + 65536 ^ k * lb xs k := by
  unfold vk lb
  by_cases h : k < xs.length
  · rw [V_take_succ xs k h, List.getElem?_eq_getElem h]; rfl
  · rw [List.take_of_length_le (by omega), List.take_of_length_le (by omega), List.getElem?_eq_none (by omega)]; simp
theorem vk_all (xs : List Nat) (k : Nat) (h : xs.length ≤ k) : vk xs k = V 65536 xs := by unfold vk; rw [List.take_of_length_le h]
theorem V_snoc (zs : List Nat) (y : Nat) : V 65536 (zs ++ [y]) = V 65536 zs + 65536 ^ zs.length * y := by simp [V_append]

/-- what a reference's result is: the valid Nat of a number -/
theorem refNorm_n {w : World} {p : Option Addr} {n c N : Nat} (h : IsN w p n c N) (hn : n ≤ 4000000000) :
    Calls Try.prog 103 #[.slice p n c] w fun e w' => ∃ p' n' c', e = .returned (.slice p' n' c') ∧ IsC w' p' n' c' N ∧ n' ≤ n ∧ w.grownBy w' none := by
  obtain ⟨L, h1, h2, rfl⟩ := h
  refine (refNorm_any p n c L w h1 hn).mono fun e w' ⟨p', c', h, hr, hg⟩ => ⟨p', _, c', h, ?_, ?_, hg⟩
  · unfold IsC; rw [← trimR_dg (by omega) h2]; exact hr
  · rw [← h1.len]; exact trimR_length_le L

end Go.Proofs.Ytdmlcddieadelaa
