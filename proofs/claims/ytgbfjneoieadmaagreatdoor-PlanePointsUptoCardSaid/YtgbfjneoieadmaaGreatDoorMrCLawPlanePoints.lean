/-
  CasesPlanePoints, in one text.
-/
import Derived.Test.YtgbfjneoieadmaaGreatDoorMrQ

set_option linter.unusedVariables false
set_option linter.unusedSimpArgs false
namespace Go.Proofs.YtgbfjneoieadmaaGreatDoor
open Go.ChangeShapes Go.WideShapes Go.ChangeAt Go.RowKit Nm Go.Abs
open Go

theorem planePoints_no0 (fl : Bool) : run13 {} (yesNo 0) 4 Tryz.f4 fix9 fl = yesR := by kernel_rfl
theorem planePoints_no1 (fl : Bool) : run13 {} (yesNo 1) 4 Tryz.f4 fix9 fl = yesR := by kernel_rfl
theorem planePoints_no2 (fl : Bool) : run13 {} (yesNo 2) 4 Tryz.f4 fix9 fl = yesR := by kernel_rfl
theorem planePoints_no3 (fl : Bool) : run13 {} (yesNo 3) 4 Tryz.f4 fix9 fl = yesR := by kernel_rfl
theorem planePoints_no4 (fl : Bool) : run13 {} (yesNo 4) 4 Tryz.f4 fix9 fl = yesR := by kernel_rfl
theorem planePoints_no5 (fl : Bool) : run13 {} (yesNo 5) 4 Tryz.f4 fix9 fl = yesR := by kernel_rfl
theorem planePoints_no6 (fl : Bool) : run13 {} (yesNo 6) 4 Tryz.f4 fix9 fl = yesR := by kernel_rfl
theorem planePoints_no7 (fl : Bool) : run13 {} (yesNo 7) 4 Tryz.f4 fix9 fl = yesR := by kernel_rfl
theorem planePoints_no8 (fl : Bool) : run13 {} (yesNo 8) 4 Tryz.f4 fix9 fl = yesR := by kernel_rfl

def planePoints_A0 : Orc := { ne := [((.add (.z 1) (.mul (.v 8) (.v 8))), (.z 0))] }
theorem planePoints_p0 (fl : Bool) : run13 planePoints_A0 yes9 4 Tryz.f4 num9 fl = yesR := by kernel_rfl
theorem planePoints_dec (ρ : Nat → Rat) (fl : Bool) : ∃ (ρ' : Nat → Rat) (A : Orc), (∀ k, k < 9 → ρ' k = ρ k) ∧ A.OK ρ' ∧ run13 A yes9 4 Tryz.f4 num9 fl = yesR := by
  have h0 := normC (b := (.add (.z 1) (.mul (.v 8) (.v 8)))) (x := (.z 1)) (y := (.z 0)) (f := (.v 8)) (nz := [(.z 2)]) (varsA ρ) (nz_cons (two_ne _) nz_nil) (by kernel_rfl) (one_ne _)
  exact ⟨ρ, planePoints_A0, (fun _ _ => rfl), (orc_ne h0 orc_nil), planePoints_p0 fl⟩

theorem planePoints_walk {W : World} (T : Tb W) {F : Nat → List Value} {fl : Bool} (hF : ∀ k, k < 9 → NumR W (F k)) :
    Calls Tryz.prog 4 #[.agg (join9 F 9 ++ [Value.bool fl]).toArray] W fun e w' => e = .returned (.bool true) ∧ W.grownBy w' none := by
  refine law13 Tryz.func4 Tryz.call4 T hF (fun k hk => ?_) (fun ρ => ?_)
  · match k, hk with
    | 0, _ => exact planePoints_no0 fl
    | 1, _ => exact planePoints_no1 fl
    | 2, _ => exact planePoints_no2 fl
    | 3, _ => exact planePoints_no3 fl
    | 4, _ => exact planePoints_no4 fl
    | 5, _ => exact planePoints_no5 fl
    | 6, _ => exact planePoints_no6 fl
    | 7, _ => exact planePoints_no7 fl
    | 8, _ => exact planePoints_no8 fl
  · exact planePoints_dec ρ fl
end Go.Proofs.YtgbfjneoieadmaaGreatDoor
