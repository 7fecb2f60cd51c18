/-
  Contracts of the reference of integers: of, Norm, Neg, Mul, Add, Sub.
-/
import Derived.Test.YtdmlcddieadelaaIntN
import Derived.Test.YtdmlcddieadelaaIntM
import Derived.Test.YtdmlcddieadelaaRefMul
import Derived.Test.YtdmlcddieadelaaRefAdd
import Derived.Test.YtdmlcddieadelaaRefSub
import Derived.Deep.RegionHeld3
set_option linter.unusedVariables false
set_option linter.unusedSimpArgs false
namespace Go.Proofs.Ytdmlcddieadelaa
open Go.RowKit Nm

theorem IsC.pos_len {w : World} {p : Option Addr} {n c N : Nat} (hA : IsC w p n c N) : decide (0 < n) = decide (0 < N) := by
  have hn : n = 0 ↔ N = 0 := by
    rw [← hA.len]
    constructor
    · intro h
      have h2 : dg 65536 N = [] := List.eq_nil_of_length_eq_zero h
      have := V_dg (B := 65536) (by omega) N
      rw [h2] at this; exact this.symm
    · rintro rfl; rfl
  by_cases h : 0 < n
  · rw [decide_eq_true h, decide_eq_true (by omega)]
  · rw [decide_eq_false h, decide_eq_false (by omega)]

theorem IsI.mk {w : World} {p : Option Addr} {n c N : Nat} (hA : IsC w p n c N) (g : Bool) : IsI w (g && decide (0 < n)) p n c (sg g N) :=
  ⟨by rw [sg_abs]; exact hA, by rw [hA.pos_len]; exact (sg_neg g N).symm⟩




theorem mul_sgn {w : World} {ga gb : Bool} {p q : Option Addr} {n c m d : Nat} {X Y : Int} (hA : IsZ w ga p n c X) (hB : IsZ w gb q m d Y) : sg (ga != gb) (X.natAbs * Y.natAbs) = X * Y := by
  have h1 := sg_z hA
  have h2 := sg_z hB
  generalize X.natAbs = N at *
  generalize Y.natAbs = M at *
  subst h1; subst h2
  cases ga <;> cases gb <;> simp [sg, Int.neg_mul, Int.mul_neg]



end Go.Proofs.Ytdmlcddieadelaa
