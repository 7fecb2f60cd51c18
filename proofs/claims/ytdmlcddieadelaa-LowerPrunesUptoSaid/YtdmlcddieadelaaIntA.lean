/-
  Contracts of integer.Add, Sub and magnitude.
-/
import Derived.Test.YtdmlcddieadelaaIntSum
import Derived.Deep.RegionWith
set_option linter.unusedVariables false
set_option linter.unusedSimpArgs false
namespace Go.Proofs.Ytdmlcddieadelaa
open Go.RowKit Nm

theorem sg_z {w : World} {g : Bool} {p : Option Addr} {n c : Nat} {Z : Int} (h : IsZ w g p n c Z) : sg g Z.natAbs = Z := h.2.symm
theorem sg_not (g : Bool) (N : Nat) : sg (!g) N = -(sg g N) := by cases g <;> simp [sg]



theorem bits_len {N b : Nat} (h : IsBits N b) : (b + 15) / 16 = (dg 65536 N).length := by
  have hp : ∀ m, 0 < 65536 ^ m := fun m => Nat.pow_pos (by omega)
  rcases h with ⟨rfl, rfl⟩ | ⟨h1, h2, h3⟩
  · rfl
  · have e : ∀ k, (65536 : Nat) ^ k = 2 ^ (16 * k) := fun k => by rw [show (65536 : Nat) = 2 ^ 16 from rfl, ← Nat.pow_mul]
    have hN : 0 < N := Nat.lt_of_lt_of_le (Nat.pow_pos (by omega)) h2
    have hne : dg 65536 N ≠ [] := fun h => by have := V_dg (B := 65536) (by omega) N; rw [h] at this; simp at this; omega
    have l1 := (Can_dg (B := 65536) (by omega) N).low (by omega) hne
    have l2 := (Can_dg (B := 65536) (by omega) N).1.lt
    rw [V_dg (by omega), e] at l1 l2
    have hl : (dg 65536 N).length ≠ 0 := by simpa using hne
    generalize (dg 65536 N).length = L at *
    have k1 : 2 ^ (16 * (L - 1)) < 2 ^ b := by omega
    have k2 : 2 ^ (b - 1) < 2 ^ (16 * L) := by omega
    have := (Nat.pow_lt_pow_iff_right (by omega : 1 < 2)).1 k1
    have := (Nat.pow_lt_pow_iff_right (by omega : 1 < 2)).1 k2
    omega



end Go.Proofs.Ytdmlcddieadelaa
