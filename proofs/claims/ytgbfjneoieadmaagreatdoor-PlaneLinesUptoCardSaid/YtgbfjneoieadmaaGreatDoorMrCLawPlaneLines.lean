/-
  CasesPlaneLines, in one text.
-/
import Derived.Test.YtgbfjneoieadmaaGreatDoorMrQ

set_option linter.unusedVariables false
set_option linter.unusedSimpArgs false
namespace Go.Proofs.YtgbfjneoieadmaaGreatDoor
open Go.ChangeShapes Go.WideShapes Go.ChangeAt Go.RowKit Nm Go.Abs
open Go

theorem planeLines_no0 (fl : Bool) : run13 {} (yesNo 0) 5 Tryz.f5 fix9 fl = yesR := by kernel_rfl
theorem planeLines_no1 (fl : Bool) : run13 {} (yesNo 1) 5 Tryz.f5 fix9 fl = yesR := by kernel_rfl
theorem planeLines_no2 (fl : Bool) : run13 {} (yesNo 2) 5 Tryz.f5 fix9 fl = yesR := by kernel_rfl
theorem planeLines_no3 (fl : Bool) : run13 {} (yesNo 3) 5 Tryz.f5 fix9 fl = yesR := by kernel_rfl
theorem planeLines_no4 (fl : Bool) : run13 {} (yesNo 4) 5 Tryz.f5 fix9 fl = yesR := by kernel_rfl
theorem planeLines_no5 (fl : Bool) : run13 {} (yesNo 5) 5 Tryz.f5 fix9 fl = yesR := by kernel_rfl
theorem planeLines_no6 (fl : Bool) : run13 {} (yesNo 6) 5 Tryz.f5 fix9 fl = yesR := by kernel_rfl
theorem planeLines_no7 (fl : Bool) : run13 {} (yesNo 7) 5 Tryz.f5 fix9 fl = yesR := by kernel_rfl
theorem planeLines_no8 (fl : Bool) : run13 {} (yesNo 8) 5 Tryz.f5 fix9 fl = yesR := by kernel_rfl
def planeLines_e0 : RE := .mul (.sub (.v 2) (.v 0)) (.sub (.v 7) (.v 5))
def planeLines_e1 : RE := .mul (.sub (.v 3) (.v 1)) (.sub (.v 6) (.v 4))
def planeLines_e2 : RE := .sub planeLines_e0 planeLines_e1
def planeLines_e3 : RE := .mul (.sub (.v 2) (.v 0)) (.sub (.v 2) (.v 0))
def planeLines_e4 : RE := .mul (.sub (.v 3) (.v 1)) (.sub (.v 3) (.v 1))
def planeLines_e5 : RE := .add planeLines_e3 planeLines_e4
def planeLines_A0 : Orc := { cmp := [((.v 0), (.v 2), 0), ((.v 1), (.v 3), 0), (planeLines_e2, (.z 0), 0)] }
theorem planeLines_p0 (fl : Bool) : run13 planeLines_A0 yes9 5 Tryz.f5 num9 fl = yesR := by kernel_rfl
def planeLines_A1 : Orc := { cmp := [((.v 0), (.v 2), 0), (planeLines_e2, (.z 0), -1)], ne := [((.v 1), (.v 3)), (planeLines_e5, (.z 0))] }
theorem planeLines_p1 (fl : Bool) : run13 planeLines_A1 yes9 5 Tryz.f5 num9 fl = yesR := by kernel_rfl
def planeLines_A2 : Orc := { cmp := [((.v 0), (.v 2), 0), (planeLines_e2, (.z 0), 0)], ne := [((.v 1), (.v 3)), (planeLines_e5, (.z 0))] }
theorem planeLines_p2 (fl : Bool) : run13 planeLines_A2 yes9 5 Tryz.f5 num9 fl = yesR := by kernel_rfl
def planeLines_A3 : Orc := { cmp := [((.v 0), (.v 2), 0), (planeLines_e2, (.z 0), 1)], ne := [((.v 1), (.v 3)), (planeLines_e5, (.z 0))] }
theorem planeLines_p3 (fl : Bool) : run13 planeLines_A3 yes9 5 Tryz.f5 num9 fl = yesR := by kernel_rfl
def planeLines_A4 : Orc := { cmp := [(planeLines_e2, (.z 0), -1)], ne := [((.v 0), (.v 2)), (planeLines_e5, (.z 0))] }
theorem planeLines_p4 (fl : Bool) : run13 planeLines_A4 yes9 5 Tryz.f5 num9 fl = yesR := by kernel_rfl
def planeLines_A5 : Orc := { cmp := [(planeLines_e2, (.z 0), 0)], ne := [((.v 0), (.v 2)), (planeLines_e5, (.z 0))] }
theorem planeLines_p5 (fl : Bool) : run13 planeLines_A5 yes9 5 Tryz.f5 num9 fl = yesR := by kernel_rfl
def planeLines_A6 : Orc := { cmp := [(planeLines_e2, (.z 0), 1)], ne := [((.v 0), (.v 2)), (planeLines_e5, (.z 0))] }
theorem planeLines_p6 (fl : Bool) : run13 planeLines_A6 yes9 5 Tryz.f5 num9 fl = yesR := by kernel_rfl
theorem planeLines_dec (ρ : Nat → Rat) (fl : Bool) : ∃ (ρ' : Nat → Rat) (A : Orc), (∀ k, k < 9 → ρ' k = ρ k) ∧ A.OK ρ' ∧ run13 A yes9 5 Tryz.f5 num9 fl = yesR := by
  by_cases h0 : RE.eval ρ (.v 0) = RE.eval ρ (.v 2)
  · have g0 := h0
    replace h0 := cmpR_zero.2 h0
    by_cases h1 : RE.eval ρ (.v 1) = RE.eval ρ (.v 3)
    · have g1 := h1
      replace h1 := cmpR_zero.2 h1
      have h2 := cmpR_zero.2 (eqC (x := planeLines_e2) (y := (.z 0)) (nz := [(.z 2)]) (varsA_2_3 ρ g0.symm g1.symm) (nz_cons (two_ne _) nz_nil) (by kernel_rfl))
      exact ⟨ρ, planeLines_A0, (fun _ _ => rfl), (orc_cmp h0 (orc_cmp h1 (orc_cmp h2 orc_nil))), planeLines_p0 fl⟩
    · skip
      have h2 := normC (b := planeLines_e5) (x := (.v 1)) (y := (.v 3)) (f := (.sub (.v 2) (.v 0))) (nz := [(.z 2)]) (varsA_2 ρ g0.symm) (nz_cons (two_ne _) nz_nil) (by kernel_rfl) h1
      rcases cmpR_bound (RE.eval ρ planeLines_e2) (RE.eval ρ (.z 0)) with h3 | h3 | h3
      · skip
        exact ⟨ρ, planeLines_A1, (fun _ _ => rfl), (orc_cmp h0 (orc_cmp h3 (orc_ne h1 (orc_ne h2 orc_nil)))), planeLines_p1 fl⟩
      · skip
        exact ⟨ρ, planeLines_A2, (fun _ _ => rfl), (orc_cmp h0 (orc_cmp h3 (orc_ne h1 (orc_ne h2 orc_nil)))), planeLines_p2 fl⟩
      · skip
        exact ⟨ρ, planeLines_A3, (fun _ _ => rfl), (orc_cmp h0 (orc_cmp h3 (orc_ne h1 (orc_ne h2 orc_nil)))), planeLines_p3 fl⟩
  · skip
    have h1 := normC (b := planeLines_e5) (x := (.v 0)) (y := (.v 2)) (f := (.sub (.v 3) (.v 1))) (nz := [(.z 2)]) (varsA ρ) (nz_cons (two_ne _) nz_nil) (by kernel_rfl) h0
    rcases cmpR_bound (RE.eval ρ planeLines_e2) (RE.eval ρ (.z 0)) with h2 | h2 | h2
    · skip
      exact ⟨ρ, planeLines_A4, (fun _ _ => rfl), (orc_cmp h2 (orc_ne h0 (orc_ne h1 orc_nil))), planeLines_p4 fl⟩
    · skip
      exact ⟨ρ, planeLines_A5, (fun _ _ => rfl), (orc_cmp h2 (orc_ne h0 (orc_ne h1 orc_nil))), planeLines_p5 fl⟩
    · skip
      exact ⟨ρ, planeLines_A6, (fun _ _ => rfl), (orc_cmp h2 (orc_ne h0 (orc_ne h1 orc_nil))), planeLines_p6 fl⟩

theorem planeLines_walk {W : World} (T : Tb W) {F : Nat → List Value} {fl : Bool} (hF : ∀ k, k < 9 → NumR W (F k)) :
    Calls Tryz.prog 5 #[.agg (join9 F 9 ++ [Value.bool fl]).toArray] W fun e w' => e = .returned (.bool true) ∧ W.grownBy w' none := by
  refine law13 Tryz.func5 Tryz.call5 T hF (fun k hk => ?_) (fun ρ => ?_)
  · match k, hk with
    | 0, _ => exact planeLines_no0 fl
    | 1, _ => exact planeLines_no1 fl
    | 2, _ => exact planeLines_no2 fl
    | 3, _ => exact planeLines_no3 fl
    | 4, _ => exact planeLines_no4 fl
    | 5, _ => exact planeLines_no5 fl
    | 6, _ => exact planeLines_no6 fl
    | 7, _ => exact planeLines_no7 fl
    | 8, _ => exact planeLines_no8 fl
  · exact planeLines_dec ρ fl
end Go.Proofs.YtgbfjneoieadmaaGreatDoor
