/-
  CasesPlaneCircles, in one text.
-/
import Derived.Test.YtgbfjneoieadmaaGreatDoorMrQ

set_option linter.unusedVariables false
set_option linter.unusedSimpArgs false
namespace Go.Proofs.YtgbfjneoieadmaaGreatDoor
open Go.ChangeShapes Go.WideShapes Go.ChangeAt Go.RowKit Nm Go.Abs
open Go

theorem planeCircles_no0 (fl : Bool) : run13 {} (yesNo 0) 6 Tryz.f6 fix9 fl = yesR := by kernel_rfl
theorem planeCircles_no1 (fl : Bool) : run13 {} (yesNo 1) 6 Tryz.f6 fix9 fl = yesR := by kernel_rfl
theorem planeCircles_no2 (fl : Bool) : run13 {} (yesNo 2) 6 Tryz.f6 fix9 fl = yesR := by kernel_rfl
theorem planeCircles_no3 (fl : Bool) : run13 {} (yesNo 3) 6 Tryz.f6 fix9 fl = yesR := by kernel_rfl
theorem planeCircles_no4 (fl : Bool) : run13 {} (yesNo 4) 6 Tryz.f6 fix9 fl = yesR := by kernel_rfl
theorem planeCircles_no5 (fl : Bool) : run13 {} (yesNo 5) 6 Tryz.f6 fix9 fl = yesR := by kernel_rfl
theorem planeCircles_no6 (fl : Bool) : run13 {} (yesNo 6) 6 Tryz.f6 fix9 fl = yesR := by kernel_rfl
theorem planeCircles_no7 (fl : Bool) : run13 {} (yesNo 7) 6 Tryz.f6 fix9 fl = yesR := by kernel_rfl
theorem planeCircles_no8 (fl : Bool) : run13 {} (yesNo 8) 6 Tryz.f6 fix9 fl = yesR := by kernel_rfl
def planeCircles_e0 : RE := .mul (.sub (.v 2) (.v 0)) (.sub (.v 5) (.v 1))
def planeCircles_e1 : RE := .mul (.sub (.v 3) (.v 1)) (.sub (.v 4) (.v 0))
def planeCircles_e2 : RE := .sub planeCircles_e0 planeCircles_e1
def planeCircles_e3 : RE := .mul (.z 2) planeCircles_e2
def planeCircles_e4 : RE := .mul (.sub (.v 2) (.v 0)) (.sub (.v 2) (.v 0))
def planeCircles_e5 : RE := .mul (.sub (.v 3) (.v 1)) (.sub (.v 3) (.v 1))
def planeCircles_e6 : RE := .add planeCircles_e4 planeCircles_e5
def planeCircles_A0 : Orc := { cmp := [((.v 0), (.v 2), 0), ((.v 1), (.v 3), 0), (planeCircles_e3, (.z 0), 0), (planeCircles_e2, (.z 0), 0)] }
theorem planeCircles_p0 (fl : Bool) : run13 planeCircles_A0 yes9 6 Tryz.f6 num9 fl = yesR := by kernel_rfl
def planeCircles_A1 : Orc := { cmp := [((.v 0), (.v 2), 0), (planeCircles_e3, (.z 0), -1), (planeCircles_e2, (.z 0), -1)], ne := [((.v 1), (.v 3)), (planeCircles_e6, (.z 0))] }
theorem planeCircles_p1 (fl : Bool) : run13 planeCircles_A1 yes9 6 Tryz.f6 num9 fl = yesR := by kernel_rfl
def planeCircles_A2 : Orc := { cmp := [((.v 0), (.v 2), 0), (planeCircles_e3, (.z 0), 0), (planeCircles_e2, (.z 0), 0)], ne := [((.v 1), (.v 3)), (planeCircles_e6, (.z 0))] }
theorem planeCircles_p2 (fl : Bool) : run13 planeCircles_A2 yes9 6 Tryz.f6 num9 fl = yesR := by kernel_rfl
def planeCircles_A3 : Orc := { cmp := [((.v 0), (.v 2), 0), (planeCircles_e3, (.z 0), 1), (planeCircles_e2, (.z 0), 1)], ne := [((.v 1), (.v 3)), (planeCircles_e6, (.z 0))] }
theorem planeCircles_p3 (fl : Bool) : run13 planeCircles_A3 yes9 6 Tryz.f6 num9 fl = yesR := by kernel_rfl
def planeCircles_A4 : Orc := { cmp := [(planeCircles_e3, (.z 0), -1), (planeCircles_e2, (.z 0), -1)], ne := [((.v 0), (.v 2)), (planeCircles_e6, (.z 0))] }
theorem planeCircles_p4 (fl : Bool) : run13 planeCircles_A4 yes9 6 Tryz.f6 num9 fl = yesR := by kernel_rfl
def planeCircles_A5 : Orc := { cmp := [(planeCircles_e3, (.z 0), 0), (planeCircles_e2, (.z 0), 0)], ne := [((.v 0), (.v 2)), (planeCircles_e6, (.z 0))] }
theorem planeCircles_p5 (fl : Bool) : run13 planeCircles_A5 yes9 6 Tryz.f6 num9 fl = yesR := by kernel_rfl
def planeCircles_A6 : Orc := { cmp := [(planeCircles_e3, (.z 0), 1), (planeCircles_e2, (.z 0), 1)], ne := [((.v 0), (.v 2)), (planeCircles_e6, (.z 0))] }
theorem planeCircles_p6 (fl : Bool) : run13 planeCircles_A6 yes9 6 Tryz.f6 num9 fl = yesR := by kernel_rfl
theorem planeCircles_dec (ρ : Nat → Rat) (fl : Bool) : ∃ (ρ' : Nat → Rat) (A : Orc), (∀ k, k < 9 → ρ' k = ρ k) ∧ A.OK ρ' ∧ run13 A yes9 6 Tryz.f6 num9 fl = yesR := by
  by_cases h0 : RE.eval ρ (.v 0) = RE.eval ρ (.v 2)
  · have g0 := h0
    replace h0 := cmpR_zero.2 h0
    by_cases h1 : RE.eval ρ (.v 1) = RE.eval ρ (.v 3)
    · have g1 := h1
      replace h1 := cmpR_zero.2 h1
      have h2 := cmpR_zero.2 (eqC (x := planeCircles_e3) (y := (.z 0)) (nz := [(.z 2)]) (varsA_2_3 ρ g0.symm g1.symm) (nz_cons (two_ne _) nz_nil) (by kernel_rfl))
      have h3 := cmpR_zero.2 (eqC (x := planeCircles_e2) (y := (.z 0)) (nz := [(.z 2)]) (varsA_2_3 ρ g0.symm g1.symm) (nz_cons (two_ne _) nz_nil) (by kernel_rfl))
      exact ⟨ρ, planeCircles_A0, (fun _ _ => rfl), (orc_cmp h0 (orc_cmp h1 (orc_cmp h2 (orc_cmp h3 orc_nil)))), planeCircles_p0 fl⟩
    · skip
      have h2 := normC (b := planeCircles_e6) (x := (.v 1)) (y := (.v 3)) (f := (.sub (.v 2) (.v 0))) (nz := [(.z 2)]) (varsA_2 ρ g0.symm) (nz_cons (two_ne _) nz_nil) (by kernel_rfl) h1
      rcases cmpR_bound (RE.eval ρ planeCircles_e3) (RE.eval ρ (.z 0)) with h3 | h3 | h3
      · skip
        have h4 := cmpR_like (likeC (x := planeCircles_e2) (y := (.z 0)) (k := (.div (.z 1) (.z 2))) (p := planeCircles_e3) (q := (.z 0)) (nz := [planeCircles_e6, planeCircles_e3, (.z 2)]) (varsA_2 ρ g0.symm) (nz_cons h2 (nz_cons (ne_of_cmp h3 rfl) (nz_cons (two_ne _) nz_nil))) (by kernel_rfl)) (show (0 : Rat) < ((1 : Int) : Rat) / ((2 : Int) : Rat) from by decide +kernel) h3
        exact ⟨ρ, planeCircles_A1, (fun _ _ => rfl), (orc_cmp h0 (orc_cmp h3 (orc_cmp h4 (orc_ne h1 (orc_ne h2 orc_nil))))), planeCircles_p1 fl⟩
      · skip
        have h4 := cmpR_like (likeC (x := planeCircles_e2) (y := (.z 0)) (k := (.div (.z 1) (.z 2))) (p := planeCircles_e3) (q := (.z 0)) (nz := [planeCircles_e6, (.z 2)]) (varsA_2 ρ g0.symm) (nz_cons h2 (nz_cons (two_ne _) nz_nil)) (by kernel_rfl)) (show (0 : Rat) < ((1 : Int) : Rat) / ((2 : Int) : Rat) from by decide +kernel) h3
        exact ⟨ρ, planeCircles_A2, (fun _ _ => rfl), (orc_cmp h0 (orc_cmp h3 (orc_cmp h4 (orc_ne h1 (orc_ne h2 orc_nil))))), planeCircles_p2 fl⟩
      · skip
        have h4 := cmpR_like (likeC (x := planeCircles_e2) (y := (.z 0)) (k := (.div (.z 1) (.z 2))) (p := planeCircles_e3) (q := (.z 0)) (nz := [planeCircles_e6, planeCircles_e3, (.z 2)]) (varsA_2 ρ g0.symm) (nz_cons h2 (nz_cons (ne_of_cmp h3 rfl) (nz_cons (two_ne _) nz_nil))) (by kernel_rfl)) (show (0 : Rat) < ((1 : Int) : Rat) / ((2 : Int) : Rat) from by decide +kernel) h3
        exact ⟨ρ, planeCircles_A3, (fun _ _ => rfl), (orc_cmp h0 (orc_cmp h3 (orc_cmp h4 (orc_ne h1 (orc_ne h2 orc_nil))))), planeCircles_p3 fl⟩
  · skip
    have h1 := normC (b := planeCircles_e6) (x := (.v 0)) (y := (.v 2)) (f := (.sub (.v 3) (.v 1))) (nz := [(.z 2)]) (varsA ρ) (nz_cons (two_ne _) nz_nil) (by kernel_rfl) h0
    rcases cmpR_bound (RE.eval ρ planeCircles_e3) (RE.eval ρ (.z 0)) with h2 | h2 | h2
    · skip
      have h3 := cmpR_like (likeC (x := planeCircles_e2) (y := (.z 0)) (k := (.div (.z 1) (.z 2))) (p := planeCircles_e3) (q := (.z 0)) (nz := [planeCircles_e6, planeCircles_e3, (.z 2)]) (varsA ρ) (nz_cons h1 (nz_cons (ne_of_cmp h2 rfl) (nz_cons (two_ne _) nz_nil))) (by kernel_rfl)) (show (0 : Rat) < ((1 : Int) : Rat) / ((2 : Int) : Rat) from by decide +kernel) h2
      exact ⟨ρ, planeCircles_A4, (fun _ _ => rfl), (orc_cmp h2 (orc_cmp h3 (orc_ne h0 (orc_ne h1 orc_nil)))), planeCircles_p4 fl⟩
    · skip
      have h3 := cmpR_like (likeC (x := planeCircles_e2) (y := (.z 0)) (k := (.div (.z 1) (.z 2))) (p := planeCircles_e3) (q := (.z 0)) (nz := [planeCircles_e6, (.z 2)]) (varsA ρ) (nz_cons h1 (nz_cons (two_ne _) nz_nil)) (by kernel_rfl)) (show (0 : Rat) < ((1 : Int) : Rat) / ((2 : Int) : Rat) from by decide +kernel) h2
      exact ⟨ρ, planeCircles_A5, (fun _ _ => rfl), (orc_cmp h2 (orc_cmp h3 (orc_ne h0 (orc_ne h1 orc_nil)))), planeCircles_p5 fl⟩
    · skip
      have h3 := cmpR_like (likeC (x := planeCircles_e2) (y := (.z 0)) (k := (.div (.z 1) (.z 2))) (p := planeCircles_e3) (q := (.z 0)) (nz := [planeCircles_e6, planeCircles_e3, (.z 2)]) (varsA ρ) (nz_cons h1 (nz_cons (ne_of_cmp h2 rfl) (nz_cons (two_ne _) nz_nil))) (by kernel_rfl)) (show (0 : Rat) < ((1 : Int) : Rat) / ((2 : Int) : Rat) from by decide +kernel) h2
      exact ⟨ρ, planeCircles_A6, (fun _ _ => rfl), (orc_cmp h2 (orc_cmp h3 (orc_ne h0 (orc_ne h1 orc_nil)))), planeCircles_p6 fl⟩

theorem planeCircles_walk {W : World} (T : Tb W) {F : Nat → List Value} {fl : Bool} (hF : ∀ k, k < 9 → NumR W (F k)) :
    Calls Tryz.prog 6 #[.agg (join9 F 9 ++ [Value.bool fl]).toArray] W fun e w' => e = .returned (.bool true) ∧ W.grownBy w' none := by
  refine law13 Tryz.func6 Tryz.call6 T hF (fun k hk => ?_) (fun ρ => ?_)
  · match k, hk with
    | 0, _ => exact planeCircles_no0 fl
    | 1, _ => exact planeCircles_no1 fl
    | 2, _ => exact planeCircles_no2 fl
    | 3, _ => exact planeCircles_no3 fl
    | 4, _ => exact planeCircles_no4 fl
    | 5, _ => exact planeCircles_no5 fl
    | 6, _ => exact planeCircles_no6 fl
    | 7, _ => exact planeCircles_no7 fl
    | 8, _ => exact planeCircles_no8 fl
  · exact planeCircles_dec ρ fl
end Go.Proofs.YtgbfjneoieadmaaGreatDoor
