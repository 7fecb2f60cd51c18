/-
  CasesPlaneVectors, in one text.
-/
import Derived.Test.YtgbfjneoieadmaaGreatDoorMrQ

set_option linter.unusedVariables false
set_option linter.unusedSimpArgs false
namespace Go.Proofs.YtgbfjneoieadmaaGreatDoor
open Go.ChangeShapes Go.WideShapes Go.ChangeAt Go.RowKit Nm Go.Abs
open Go

theorem planeVectors_no0 (fl : Bool) : run13 {} (yesNo 0) 3 Tryz.f3 fix9 fl = yesR := by kernel_rfl
theorem planeVectors_no1 (fl : Bool) : run13 {} (yesNo 1) 3 Tryz.f3 fix9 fl = yesR := by kernel_rfl
theorem planeVectors_no2 (fl : Bool) : run13 {} (yesNo 2) 3 Tryz.f3 fix9 fl = yesR := by kernel_rfl
theorem planeVectors_no3 (fl : Bool) : run13 {} (yesNo 3) 3 Tryz.f3 fix9 fl = yesR := by kernel_rfl
theorem planeVectors_no4 (fl : Bool) : run13 {} (yesNo 4) 3 Tryz.f3 fix9 fl = yesR := by kernel_rfl
theorem planeVectors_no5 (fl : Bool) : run13 {} (yesNo 5) 3 Tryz.f3 fix9 fl = yesR := by kernel_rfl
theorem planeVectors_no6 (fl : Bool) : run13 {} (yesNo 6) 3 Tryz.f3 fix9 fl = yesR := by kernel_rfl
theorem planeVectors_no7 (fl : Bool) : run13 {} (yesNo 7) 3 Tryz.f3 fix9 fl = yesR := by kernel_rfl
theorem planeVectors_no8 (fl : Bool) : run13 {} (yesNo 8) 3 Tryz.f3 fix9 fl = yesR := by kernel_rfl
def pvA1 : Orc := { cmp := [(.v 0, .v 2, -1)] }
theorem planeVectors_p1 (fl : Bool) : run13 pvA1 yes9 3 Tryz.f3 num9 fl = yesR := by kernel_rfl
def pvA2 : Orc := { cmp := [(.v 0, .v 2, 1)] }
theorem planeVectors_p2 (fl : Bool) : run13 pvA2 yes9 3 Tryz.f3 num9 fl = yesR := by kernel_rfl
def pvA3 : Orc := { cmp := [(.v 0, .v 2, 0), (.v 1, .v 3, -1)] }
theorem planeVectors_p3 (fl : Bool) : run13 pvA3 yes9 3 Tryz.f3 num9 fl = yesR := by kernel_rfl
def pvA4 : Orc := { cmp := [(.v 0, .v 2, 0), (.v 1, .v 3, 0)] }
theorem planeVectors_p4 (fl : Bool) : run13 pvA4 yes9 3 Tryz.f3 num9 fl = yesR := by kernel_rfl
def pvA5 : Orc := { cmp := [(.v 0, .v 2, 0), (.v 1, .v 3, 1)] }
theorem planeVectors_p5 (fl : Bool) : run13 pvA5 yes9 3 Tryz.f3 num9 fl = yesR := by kernel_rfl

theorem planeVectors_walk {W : World} (T : Tb W) {F : Nat → List Value} {fl : Bool} (hF : ∀ k, k < 9 → NumR W (F k)) :
    Calls Tryz.prog 3 #[.agg (join9 F 9 ++ [Value.bool fl]).toArray] W fun e w' => e = .returned (.bool true) ∧ W.grownBy w' none := by
  refine law13 Tryz.func3 Tryz.call3 T hF (fun k hk => ?_) (fun ρ => ?_)
  · match k, hk with
    | 0, _ => exact planeVectors_no0 fl
    | 1, _ => exact planeVectors_no1 fl
    | 2, _ => exact planeVectors_no2 fl
    | 3, _ => exact planeVectors_no3 fl
    | 4, _ => exact planeVectors_no4 fl
    | 5, _ => exact planeVectors_no5 fl
    | 6, _ => exact planeVectors_no6 fl
    | 7, _ => exact planeVectors_no7 fl
    | 8, _ => exact planeVectors_no8 fl
  · rcases cmpR_bound (ρ 0) (ρ 2) with h | h | h
    · exact ⟨ρ, pvA1, fun _ _ => rfl, orc_cmp (x := .v 0) (y := .v 2) h orc_nil, planeVectors_p1 fl⟩
    · rcases cmpR_bound (ρ 1) (ρ 3) with k | k | k
      · exact ⟨ρ, pvA3, fun _ _ => rfl, orc_cmp (x := .v 0) (y := .v 2) h (orc_cmp (x := .v 1) (y := .v 3) k orc_nil), planeVectors_p3 fl⟩
      · exact ⟨ρ, pvA4, fun _ _ => rfl, orc_cmp (x := .v 0) (y := .v 2) h (orc_cmp (x := .v 1) (y := .v 3) k orc_nil), planeVectors_p4 fl⟩
      · exact ⟨ρ, pvA5, fun _ _ => rfl, orc_cmp (x := .v 0) (y := .v 2) h (orc_cmp (x := .v 1) (y := .v 3) k orc_nil), planeVectors_p5 fl⟩
    · exact ⟨ρ, pvA2, fun _ _ => rfl, orc_cmp (x := .v 0) (y := .v 2) h orc_nil, planeVectors_p2 fl⟩
end Go.Proofs.YtgbfjneoieadmaaGreatDoor
