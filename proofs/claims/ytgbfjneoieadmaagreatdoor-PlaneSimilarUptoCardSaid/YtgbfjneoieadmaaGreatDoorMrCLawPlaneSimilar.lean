/-
  CasesPlaneSimilar, in one text.
-/
import Derived.Test.YtgbfjneoieadmaaGreatDoorMrQ

set_option linter.unusedVariables false
set_option linter.unusedSimpArgs false
namespace Go.Proofs.YtgbfjneoieadmaaGreatDoor
open Go.ChangeShapes Go.WideShapes Go.ChangeAt Go.RowKit Nm Go.Abs
open Go

theorem planeSimilar_no0 (fl : Bool) : run13 {} (yesNo 0) 10 Tryz.f10 fix9 fl = yesR := by kernel_rfl
theorem planeSimilar_no1 (fl : Bool) : run13 {} (yesNo 1) 10 Tryz.f10 fix9 fl = yesR := by kernel_rfl
theorem planeSimilar_no2 (fl : Bool) : run13 {} (yesNo 2) 10 Tryz.f10 fix9 fl = yesR := by kernel_rfl
theorem planeSimilar_no3 (fl : Bool) : run13 {} (yesNo 3) 10 Tryz.f10 fix9 fl = yesR := by kernel_rfl
theorem planeSimilar_no4 (fl : Bool) : run13 {} (yesNo 4) 10 Tryz.f10 fix9 fl = yesR := by kernel_rfl
theorem planeSimilar_no5 (fl : Bool) : run13 {} (yesNo 5) 10 Tryz.f10 fix9 fl = yesR := by kernel_rfl
theorem planeSimilar_no6 (fl : Bool) : run13 {} (yesNo 6) 10 Tryz.f10 fix9 fl = yesR := by kernel_rfl
theorem planeSimilar_no7 (fl : Bool) : run13 {} (yesNo 7) 10 Tryz.f10 fix9 fl = yesR := by kernel_rfl
theorem planeSimilar_no8 (fl : Bool) : run13 {} (yesNo 8) 10 Tryz.f10 fix9 fl = yesR := by kernel_rfl
noncomputable def planeSimilar_c : Code := bodyOf Tryz.f10
noncomputable def planeSimilar_k0 (fl : Bool) : Keep KQ := { sl := [(1, .val false [.ptr 2 0]), (3, .val false [.ptr 28 0])], bl := [(2, ⟨31, cells9 9 ++ [.lit (.bool fl)]⟩), (28, ⟨31, [.sym 10 0 0, .sym 10 0 1, .sym 10 0 2, .sym 10 1 0, .sym 10 1 1, .sym 10 1 2, .sym 14 0 0, .sym 14 0 1, .sym 14 0 2, .sym 14 1 0, .sym 14 1 1, .sym 14 1 2, .sym 18 0 0, .sym 18 0 1, .sym 18 0 2, .sym 18 1 0, .sym 18 1 1, .sym 18 1 2, .sym 22 0 0, .sym 22 0 1, .sym 22 0 2, .sym 22 1 0, .sym 22 1 1, .sym 22 1 2, .sym 0 8 0, .sym 0 8 1, .sym 0 8 2, .lit (.bool fl)]⟩)], bx := [], ks := [(0, 0, .num 0 (.v 0) 2), (0, 1, .num 1 (.v 1) 2), (0, 2, .num 2 (.v 2) 2), (0, 3, .num 3 (.v 3) 2), (0, 4, .num 4 (.v 4) 2), (0, 5, .num 5 (.v 5) 2), (0, 6, .num 6 (.v 6) 2), (0, 7, .num 7 (.v 7) 2), (0, 8, .num 8 (.v 8) 2), (10, 0, .rat (.add (.v 6) (.sub (.v 5) (.v 1))) 8), (10, 1, .rat (.add (.v 7) (.sub (.v 0) (.v 4))) 8), (14, 0, .rat (.add (.v 6) (.sub (.v 5) (.v 3))) 8), (14, 1, .rat (.add (.v 7) (.sub (.v 2) (.v 4))) 8), (18, 0, .rat (.add (.v 6) (.sub (.v 5) (.v 5))) 8), (18, 1, .rat (.add (.v 7) (.sub (.v 4) (.v 4))) 8), (22, 0, .rat (.add (.v 6) (.sub (.v 5) (.v 7))) 8), (22, 1, .rat (.add (.v 7) (.sub (.v 6) (.v 4))) 8)], n := 255, ob := 2 }
def planeSimilar0_e0 : RE := .mul (.sub (.v 2) (.v 0)) (.sub (.v 6) (.v 4))
def planeSimilar0_e1 : RE := .mul (.sub (.v 3) (.v 1)) (.sub (.v 7) (.v 5))
def planeSimilar0_e2 : RE := .add planeSimilar0_e0 planeSimilar0_e1
def planeSimilar0_e3 : RE := .sub (.add (.v 6) (.sub (.v 5) (.v 3))) (.add (.v 6) (.sub (.v 5) (.v 1)))
def planeSimilar0_e4 : RE := .sub (.add (.v 6) (.sub (.v 5) (.v 7))) (.add (.v 6) (.sub (.v 5) (.v 5)))
def planeSimilar0_e5 : RE := .mul planeSimilar0_e3 planeSimilar0_e4
def planeSimilar0_e6 : RE := .sub (.add (.v 7) (.sub (.v 2) (.v 4))) (.add (.v 7) (.sub (.v 0) (.v 4)))
def planeSimilar0_e7 : RE := .sub (.add (.v 7) (.sub (.v 6) (.v 4))) (.add (.v 7) (.sub (.v 4) (.v 4)))
def planeSimilar0_e8 : RE := .mul planeSimilar0_e6 planeSimilar0_e7
def planeSimilar0_e9 : RE := .add planeSimilar0_e5 planeSimilar0_e8
def planeSimilar0_e10 : RE := .mul (.sub (.v 2) (.v 0)) (.sub (.v 7) (.v 5))
def planeSimilar0_e11 : RE := .mul (.sub (.v 3) (.v 1)) (.sub (.v 6) (.v 4))
def planeSimilar0_e12 : RE := .sub planeSimilar0_e10 planeSimilar0_e11
def planeSimilar0_e13 : RE := .mul planeSimilar0_e3 planeSimilar0_e7
def planeSimilar0_e14 : RE := .mul planeSimilar0_e4 planeSimilar0_e6
def planeSimilar0_e15 : RE := .sub planeSimilar0_e13 planeSimilar0_e14
def planeSimilar0_A0 : Orc := { cmp := [(planeSimilar0_e2, planeSimilar0_e9, 0), (planeSimilar0_e12, planeSimilar0_e15, 0)] }
theorem planeSimilar0_p0 (fl : Bool) : (stepN Tryz.prog (ctrA planeSimilar0_A0) 20 4 planeSimilar_c (V13 fl Tryz.f10) 2).map (digest (planeSimilar_k0 fl) 72) = some (planeSimilar_k0 fl).want := by kernel_rfl
theorem planeSimilar0_dec (ρ : Nat → Rat) (fl : Bool) : ∃ (ρ' : Nat → Rat) (A : Orc), (∀ k, k < 9 → ρ' k = ρ k) ∧ A.OK ρ' ∧ (stepN Tryz.prog (ctrA A) 20 4 planeSimilar_c (V13 fl Tryz.f10) 2).map (digest (planeSimilar_k0 fl) 72) = some (planeSimilar_k0 fl).want := by
  have h0 := cmpR_zero.2 (eqC (x := planeSimilar0_e2) (y := planeSimilar0_e9) (nz := [(.z 2)]) (varsA ρ) (nz_cons (two_ne _) nz_nil) (by kernel_rfl))
  have h1 := cmpR_zero.2 (eqC (x := planeSimilar0_e12) (y := planeSimilar0_e15) (nz := [(.z 2)]) (varsA ρ) (nz_cons (two_ne _) nz_nil) (by kernel_rfl))
  exact ⟨ρ, planeSimilar0_A0, (fun _ _ => rfl), (orc_cmp h0 (orc_cmp h1 orc_nil)), planeSimilar0_p0 fl⟩

theorem planeSimilar_q0 (fl : Bool) : PieceOK planeSimilar_c (V13 fl Tryz.f10) 2 4 (planeSimilar_k0 fl) 72 := fun ρ => planeSimilar0_dec ρ fl
noncomputable def planeSimilar_k1 (fl : Bool) : Keep KQ := { sl := [(1, .val false [.ptr 2 0]), (3, .val false [.ptr 28 0]), (4, .val false [.ptr 82 0]), (6, .val false [.ptr 95 0])], bl := [(2, ⟨31, cells9 9 ++ [.lit (.bool fl)]⟩), (28, ⟨31, [.sym 10 0 0, .sym 10 0 1, .sym 10 0 2, .sym 10 1 0, .sym 10 1 1, .sym 10 1 2, .sym 14 0 0, .sym 14 0 1, .sym 14 0 2, .sym 14 1 0, .sym 14 1 1, .sym 14 1 2, .sym 18 0 0, .sym 18 0 1, .sym 18 0 2, .sym 18 1 0, .sym 18 1 1, .sym 18 1 2, .sym 22 0 0, .sym 22 0 1, .sym 22 0 2, .sym 22 1 0, .sym 22 1 1, .sym 22 1 2, .sym 0 8 0, .sym 0 8 1, .sym 0 8 2, .lit (.bool fl)]⟩)], bx := [(82, 29, 6), (95, 29, 6)], ks := [(0, 0, .num 0 (.v 0) 2), (0, 1, .num 1 (.v 1) 2), (0, 2, .num 2 (.v 2) 2), (0, 3, .num 3 (.v 3) 2), (0, 4, .num 4 (.v 4) 2), (0, 5, .num 5 (.v 5) 2), (0, 6, .num 6 (.v 6) 2), (0, 7, .num 7 (.v 7) 2), (0, 8, .num 8 (.v 8) 2), (10, 0, .rat (.add (.v 6) (.sub (.v 5) (.v 1))) 8), (10, 1, .rat (.add (.v 7) (.sub (.v 0) (.v 4))) 8), (14, 0, .rat (.add (.v 6) (.sub (.v 5) (.v 3))) 8), (14, 1, .rat (.add (.v 7) (.sub (.v 2) (.v 4))) 8), (18, 0, .rat (.add (.v 6) (.sub (.v 5) (.v 5))) 8), (18, 1, .rat (.add (.v 7) (.sub (.v 4) (.v 4))) 8), (22, 0, .rat (.add (.v 6) (.sub (.v 5) (.v 7))) 8), (22, 1, .rat (.add (.v 7) (.sub (.v 6) (.v 4))) 8)], n := 255, ob := 2 }
def planeSimilar1_e0 : RE := .mul (.sub (.v 2) (.v 0)) (.sub (.v 2) (.v 0))
def planeSimilar1_e1 : RE := .mul (.sub (.v 3) (.v 1)) (.sub (.v 3) (.v 1))
def planeSimilar1_e2 : RE := .add planeSimilar1_e0 planeSimilar1_e1
def planeSimilar1_e3 : RE := .sub (.add (.v 6) (.sub (.v 5) (.v 3))) (.add (.v 6) (.sub (.v 5) (.v 1)))
def planeSimilar1_e4 : RE := .mul planeSimilar1_e3 planeSimilar1_e3
def planeSimilar1_e5 : RE := .sub (.add (.v 7) (.sub (.v 2) (.v 4))) (.add (.v 7) (.sub (.v 0) (.v 4)))
def planeSimilar1_e6 : RE := .mul planeSimilar1_e5 planeSimilar1_e5
def planeSimilar1_e7 : RE := .add planeSimilar1_e4 planeSimilar1_e6
def planeSimilar1_e8 : RE := .mul (.sub (.v 2) (.v 0)) (.sub (.v 6) (.v 0))
def planeSimilar1_e9 : RE := .mul (.sub (.v 3) (.v 1)) (.sub (.v 7) (.v 1))
def planeSimilar1_e10 : RE := .add planeSimilar1_e8 planeSimilar1_e9
def planeSimilar1_e11 : RE := .div planeSimilar1_e10 planeSimilar1_e2
def planeSimilar1_e12 : RE := .mul (.sub (.v 3) (.v 1)) planeSimilar1_e11
def planeSimilar1_e13 : RE := .add (.v 1) planeSimilar1_e12
def planeSimilar1_e14 : RE := .sub (.v 5) planeSimilar1_e13
def planeSimilar1_e15 : RE := .add (.v 6) planeSimilar1_e14
def planeSimilar1_e16 : RE := .sub (.add (.v 6) (.sub (.v 5) (.v 7))) (.add (.v 6) (.sub (.v 5) (.v 1)))
def planeSimilar1_e17 : RE := .mul planeSimilar1_e3 planeSimilar1_e16
def planeSimilar1_e18 : RE := .sub (.add (.v 7) (.sub (.v 6) (.v 4))) (.add (.v 7) (.sub (.v 0) (.v 4)))
def planeSimilar1_e19 : RE := .mul planeSimilar1_e5 planeSimilar1_e18
def planeSimilar1_e20 : RE := .add planeSimilar1_e17 planeSimilar1_e19
def planeSimilar1_e21 : RE := .div planeSimilar1_e20 planeSimilar1_e7
def planeSimilar1_e22 : RE := .mul planeSimilar1_e3 planeSimilar1_e21
def planeSimilar1_e23 : RE := .add (.add (.v 6) (.sub (.v 5) (.v 1))) planeSimilar1_e22
def planeSimilar1_e24 : RE := .mul (.sub (.v 2) (.v 0)) planeSimilar1_e11
def planeSimilar1_e25 : RE := .add (.v 0) planeSimilar1_e24
def planeSimilar1_e26 : RE := .sub planeSimilar1_e25 (.v 4)
def planeSimilar1_e27 : RE := .add (.v 7) planeSimilar1_e26
def planeSimilar1_e28 : RE := .mul planeSimilar1_e5 planeSimilar1_e21
def planeSimilar1_e29 : RE := .add (.add (.v 7) (.sub (.v 0) (.v 4))) planeSimilar1_e28
def planeSimilar1_A0 : Orc := { cmp := [((.v 0), (.v 2), 0), ((.v 1), (.v 3), 0), ((.add (.v 6) (.sub (.v 5) (.v 1))), (.add (.v 6) (.sub (.v 5) (.v 3))), 0), ((.add (.v 7) (.sub (.v 0) (.v 4))), (.add (.v 7) (.sub (.v 2) (.v 4))), 0)] }
theorem planeSimilar1_p0 (fl : Bool) : (stepN Tryz.prog (ctrA planeSimilar1_A0) 20 3 (restN 4 planeSimilar_c) (planeSimilar_k0 fl).vn 72).map (digest (planeSimilar_k1 fl) 105) = some (planeSimilar_k1 fl).want := by kernel_rfl
def planeSimilar1_A1 : Orc := { cmp := [((.v 0), (.v 2), 0), (planeSimilar1_e15, planeSimilar1_e23, 0), (planeSimilar1_e27, planeSimilar1_e29, 0)], ne := [((.v 1), (.v 3)), (planeSimilar1_e2, (.z 0)), ((.add (.v 6) (.sub (.v 5) (.v 1))), (.add (.v 6) (.sub (.v 5) (.v 3)))), (planeSimilar1_e7, (.z 0))] }
theorem planeSimilar1_p1 (fl : Bool) : (stepN Tryz.prog (ctrA planeSimilar1_A1) 20 3 (restN 4 planeSimilar_c) (planeSimilar_k0 fl).vn 72).map (digest (planeSimilar_k1 fl) 105) = some (planeSimilar_k1 fl).want := by kernel_rfl
def planeSimilar1_A2 : Orc := { cmp := [((.add (.v 6) (.sub (.v 5) (.v 1))), (.add (.v 6) (.sub (.v 5) (.v 3))), 0), (planeSimilar1_e15, planeSimilar1_e23, 0), (planeSimilar1_e27, planeSimilar1_e29, 0)], ne := [((.v 0), (.v 2)), (planeSimilar1_e2, (.z 0)), ((.add (.v 7) (.sub (.v 0) (.v 4))), (.add (.v 7) (.sub (.v 2) (.v 4)))), (planeSimilar1_e7, (.z 0))] }
theorem planeSimilar1_p2 (fl : Bool) : (stepN Tryz.prog (ctrA planeSimilar1_A2) 20 3 (restN 4 planeSimilar_c) (planeSimilar_k0 fl).vn 72).map (digest (planeSimilar_k1 fl) 105) = some (planeSimilar_k1 fl).want := by kernel_rfl
def planeSimilar1_A3 : Orc := { cmp := [(planeSimilar1_e15, planeSimilar1_e23, 0), (planeSimilar1_e27, planeSimilar1_e29, 0)], ne := [((.v 0), (.v 2)), (planeSimilar1_e2, (.z 0)), ((.add (.v 6) (.sub (.v 5) (.v 1))), (.add (.v 6) (.sub (.v 5) (.v 3)))), (planeSimilar1_e7, (.z 0))] }
theorem planeSimilar1_p3 (fl : Bool) : (stepN Tryz.prog (ctrA planeSimilar1_A3) 20 3 (restN 4 planeSimilar_c) (planeSimilar_k0 fl).vn 72).map (digest (planeSimilar_k1 fl) 105) = some (planeSimilar_k1 fl).want := by kernel_rfl
theorem planeSimilar1_dec (ρ : Nat → Rat) (fl : Bool) : ∃ (ρ' : Nat → Rat) (A : Orc), (∀ k, k < 9 → ρ' k = ρ k) ∧ A.OK ρ' ∧ (stepN Tryz.prog (ctrA A) 20 3 (restN 4 planeSimilar_c) (planeSimilar_k0 fl).vn 72).map (digest (planeSimilar_k1 fl) 105) = some (planeSimilar_k1 fl).want := by
  by_cases h0 : RE.eval ρ (.v 0) = RE.eval ρ (.v 2)
  · have g0 := h0
    replace h0 := cmpR_zero.2 h0
    by_cases h1 : RE.eval ρ (.v 1) = RE.eval ρ (.v 3)
    · have g1 := h1
      replace h1 := cmpR_zero.2 h1
      have h2 := cmpR_zero.2 (eqC (x := (.add (.v 6) (.sub (.v 5) (.v 1)))) (y := (.add (.v 6) (.sub (.v 5) (.v 3)))) (nz := [(.z 2)]) (varsA_2_3 ρ g0.symm g1.symm) (nz_cons (two_ne _) nz_nil) (by kernel_rfl))
      have h3 := cmpR_zero.2 (eqC (x := (.add (.v 7) (.sub (.v 0) (.v 4)))) (y := (.add (.v 7) (.sub (.v 2) (.v 4)))) (nz := [(.z 2)]) (varsA_2_3 ρ g0.symm g1.symm) (nz_cons (two_ne _) nz_nil) (by kernel_rfl))
      exact ⟨ρ, planeSimilar1_A0, (fun _ _ => rfl), (orc_cmp h0 (orc_cmp h1 (orc_cmp h2 (orc_cmp h3 orc_nil)))), planeSimilar1_p0 fl⟩
    · skip
      have h2 := normC (b := planeSimilar1_e2) (x := (.v 1)) (y := (.v 3)) (f := (.sub (.v 2) (.v 0))) (nz := [(.z 2)]) (varsA_2 ρ g0.symm) (nz_cons (two_ne _) nz_nil) (by kernel_rfl) h1
      have h3 := ne_like (likeC (x := (.add (.v 6) (.sub (.v 5) (.v 1)))) (y := (.add (.v 6) (.sub (.v 5) (.v 3)))) (k := (.z (-1))) (p := (.v 1)) (q := (.v 3)) (nz := [planeSimilar1_e2, (.z 2)]) (varsA_2 ρ g0.symm) (nz_cons h2 (nz_cons (two_ne _) nz_nil)) (by kernel_rfl)) (show ((-1 : Int) : Rat) ≠ (0 : Rat) from by decide +kernel) h1
      have h4 := ne_like (likeC (x := planeSimilar1_e7) (y := (.z 0)) (k := (.z 1)) (p := planeSimilar1_e2) (q := (.z 0)) (nz := [planeSimilar1_e2, (.z 2)]) (varsA_2 ρ g0.symm) (nz_cons h2 (nz_cons (two_ne _) nz_nil)) (by kernel_rfl)) (show ((1 : Int) : Rat) ≠ (0 : Rat) from by decide +kernel) h2
      have h5 := cmpR_zero.2 (eqC (x := planeSimilar1_e15) (y := planeSimilar1_e23) (nz := [planeSimilar1_e2, planeSimilar1_e7, (.z 2)]) (varsA_2 ρ g0.symm) (nz_cons h2 (nz_cons h4 (nz_cons (two_ne _) nz_nil))) (by kernel_rfl))
      have h6 := cmpR_zero.2 (eqC (x := planeSimilar1_e27) (y := planeSimilar1_e29) (nz := [planeSimilar1_e2, planeSimilar1_e7, (.z 2)]) (varsA_2 ρ g0.symm) (nz_cons h2 (nz_cons h4 (nz_cons (two_ne _) nz_nil))) (by kernel_rfl))
      exact ⟨ρ, planeSimilar1_A1, (fun _ _ => rfl), (orc_cmp h0 (orc_cmp h5 (orc_cmp h6 (orc_ne h1 (orc_ne h2 (orc_ne h3 (orc_ne h4 orc_nil))))))), planeSimilar1_p1 fl⟩
  · skip
    have h1 := normC (b := planeSimilar1_e2) (x := (.v 0)) (y := (.v 2)) (f := (.sub (.v 3) (.v 1))) (nz := [(.z 2)]) (varsA ρ) (nz_cons (two_ne _) nz_nil) (by kernel_rfl) h0
    by_cases h2 : RE.eval ρ (.add (.v 6) (.sub (.v 5) (.v 1))) = RE.eval ρ (.add (.v 6) (.sub (.v 5) (.v 3)))
    · have g2 := h2
      replace h2 := cmpR_zero.2 h2
      have h3 := ne_like (likeC (x := (.add (.v 7) (.sub (.v 0) (.v 4)))) (y := (.add (.v 7) (.sub (.v 2) (.v 4)))) (k := (.z 1)) (p := (.v 0)) (q := (.v 2)) (nz := [planeSimilar1_e2, (.z 2)]) (varsA ρ) (nz_cons h1 (nz_cons (two_ne _) nz_nil)) (by kernel_rfl)) (show ((1 : Int) : Rat) ≠ (0 : Rat) from by decide +kernel) h0
      have h4 := ne_like (likeC (x := planeSimilar1_e7) (y := (.z 0)) (k := (.z 1)) (p := planeSimilar1_e2) (q := (.z 0)) (nz := [planeSimilar1_e2, (.z 2)]) (varsA ρ) (nz_cons h1 (nz_cons (two_ne _) nz_nil)) (by kernel_rfl)) (show ((1 : Int) : Rat) ≠ (0 : Rat) from by decide +kernel) h1
      have h5 := cmpR_zero.2 (eqC (x := planeSimilar1_e15) (y := planeSimilar1_e23) (nz := [planeSimilar1_e2, planeSimilar1_e7, (.z 2)]) (varsA ρ) (nz_cons h1 (nz_cons h4 (nz_cons (two_ne _) nz_nil))) (by kernel_rfl))
      have h6 := cmpR_zero.2 (eqC (x := planeSimilar1_e27) (y := planeSimilar1_e29) (nz := [planeSimilar1_e2, planeSimilar1_e7, (.z 2)]) (varsA ρ) (nz_cons h1 (nz_cons h4 (nz_cons (two_ne _) nz_nil))) (by kernel_rfl))
      exact ⟨ρ, planeSimilar1_A2, (fun _ _ => rfl), (orc_cmp h2 (orc_cmp h5 (orc_cmp h6 (orc_ne h0 (orc_ne h1 (orc_ne h3 (orc_ne h4 orc_nil))))))), planeSimilar1_p2 fl⟩
    · skip
      have h3 := ne_like (likeC (x := planeSimilar1_e7) (y := (.z 0)) (k := (.z 1)) (p := planeSimilar1_e2) (q := (.z 0)) (nz := [planeSimilar1_e2, (.z 2)]) (varsA ρ) (nz_cons h1 (nz_cons (two_ne _) nz_nil)) (by kernel_rfl)) (show ((1 : Int) : Rat) ≠ (0 : Rat) from by decide +kernel) h1
      have h4 := cmpR_zero.2 (eqC (x := planeSimilar1_e15) (y := planeSimilar1_e23) (nz := [planeSimilar1_e2, planeSimilar1_e7, (.z 2)]) (varsA ρ) (nz_cons h1 (nz_cons h3 (nz_cons (two_ne _) nz_nil))) (by kernel_rfl))
      have h5 := cmpR_zero.2 (eqC (x := planeSimilar1_e27) (y := planeSimilar1_e29) (nz := [planeSimilar1_e2, planeSimilar1_e7, (.z 2)]) (varsA ρ) (nz_cons h1 (nz_cons h3 (nz_cons (two_ne _) nz_nil))) (by kernel_rfl))
      exact ⟨ρ, planeSimilar1_A3, (fun _ _ => rfl), (orc_cmp h4 (orc_cmp h5 (orc_ne h0 (orc_ne h1 (orc_ne h2 (orc_ne h3 orc_nil)))))), planeSimilar1_p3 fl⟩

theorem planeSimilar_q1 (fl : Bool) : PieceOK (restN 4 planeSimilar_c) (planeSimilar_k0 fl).vn 72 3 (planeSimilar_k1 fl) 105 := fun ρ => planeSimilar1_dec ρ fl
noncomputable def planeSimilar_k2 (fl : Bool) : Keep KQ := { sl := [(1, .val false [.ptr 2 0]), (3, .val false [.ptr 28 0]), (4, .val false [.ptr 82 0]), (6, .val false [.ptr 95 0])], bl := [(2, ⟨31, cells9 9 ++ [.lit (.bool fl)]⟩), (28, ⟨31, [.sym 10 0 0, .sym 10 0 1, .sym 10 0 2, .sym 10 1 0, .sym 10 1 1, .sym 10 1 2, .sym 14 0 0, .sym 14 0 1, .sym 14 0 2, .sym 14 1 0, .sym 14 1 1, .sym 14 1 2, .sym 18 0 0, .sym 18 0 1, .sym 18 0 2, .sym 18 1 0, .sym 18 1 1, .sym 18 1 2, .sym 22 0 0, .sym 22 0 1, .sym 22 0 2, .sym 22 1 0, .sym 22 1 1, .sym 22 1 2, .sym 0 8 0, .sym 0 8 1, .sym 0 8 2, .lit (.bool fl)]⟩)], bx := [(82, 29, 6), (95, 29, 6)], ks := [(0, 0, .num 0 (.v 0) 2), (0, 1, .num 1 (.v 1) 2), (0, 2, .num 2 (.v 2) 2), (0, 3, .num 3 (.v 3) 2), (0, 4, .num 4 (.v 4) 2), (0, 5, .num 5 (.v 5) 2), (0, 6, .num 6 (.v 6) 2), (0, 7, .num 7 (.v 7) 2), (0, 8, .num 8 (.v 8) 2), (10, 0, .rat (.add (.v 6) (.sub (.v 5) (.v 1))) 8), (10, 1, .rat (.add (.v 7) (.sub (.v 0) (.v 4))) 8), (14, 0, .rat (.add (.v 6) (.sub (.v 5) (.v 3))) 8), (14, 1, .rat (.add (.v 7) (.sub (.v 2) (.v 4))) 8), (18, 0, .rat (.add (.v 6) (.sub (.v 5) (.v 5))) 8), (18, 1, .rat (.add (.v 7) (.sub (.v 4) (.v 4))) 8), (22, 0, .rat (.add (.v 6) (.sub (.v 5) (.v 7))) 8), (22, 1, .rat (.add (.v 7) (.sub (.v 6) (.v 4))) 8)], n := 255, ob := 2 }
def planeSimilar2_e0 : RE := .mul (.sub (.v 2) (.v 0)) (.sub (.v 7) (.v 5))
def planeSimilar2_e1 : RE := .mul (.sub (.v 3) (.v 1)) (.sub (.v 6) (.v 4))
def planeSimilar2_e2 : RE := .sub planeSimilar2_e0 planeSimilar2_e1
def planeSimilar2_e3 : RE := .sub (.add (.v 6) (.sub (.v 5) (.v 3))) (.add (.v 6) (.sub (.v 5) (.v 1)))
def planeSimilar2_e4 : RE := .sub (.add (.v 7) (.sub (.v 6) (.v 4))) (.add (.v 7) (.sub (.v 4) (.v 4)))
def planeSimilar2_e5 : RE := .mul planeSimilar2_e3 planeSimilar2_e4
def planeSimilar2_e6 : RE := .sub (.add (.v 6) (.sub (.v 5) (.v 7))) (.add (.v 6) (.sub (.v 5) (.v 5)))
def planeSimilar2_e7 : RE := .sub (.add (.v 7) (.sub (.v 2) (.v 4))) (.add (.v 7) (.sub (.v 0) (.v 4)))
def planeSimilar2_e8 : RE := .mul planeSimilar2_e6 planeSimilar2_e7
def planeSimilar2_e9 : RE := .sub planeSimilar2_e5 planeSimilar2_e8
def planeSimilar2_e10 : RE := .mul (.sub (.v 4) (.v 0)) (.sub (.v 7) (.v 5))
def planeSimilar2_e11 : RE := .mul (.sub (.v 5) (.v 1)) (.sub (.v 6) (.v 4))
def planeSimilar2_e12 : RE := .sub planeSimilar2_e10 planeSimilar2_e11
def planeSimilar2_e13 : RE := .div planeSimilar2_e12 planeSimilar2_e2
def planeSimilar2_e14 : RE := .mul (.sub (.v 3) (.v 1)) planeSimilar2_e13
def planeSimilar2_e15 : RE := .add (.v 1) planeSimilar2_e14
def planeSimilar2_e16 : RE := .sub (.v 5) planeSimilar2_e15
def planeSimilar2_e17 : RE := .add (.v 6) planeSimilar2_e16
def planeSimilar2_e18 : RE := .sub (.add (.v 6) (.sub (.v 5) (.v 5))) (.add (.v 6) (.sub (.v 5) (.v 1)))
def planeSimilar2_e19 : RE := .mul planeSimilar2_e18 planeSimilar2_e4
def planeSimilar2_e20 : RE := .sub (.add (.v 7) (.sub (.v 4) (.v 4))) (.add (.v 7) (.sub (.v 0) (.v 4)))
def planeSimilar2_e21 : RE := .mul planeSimilar2_e6 planeSimilar2_e20
def planeSimilar2_e22 : RE := .sub planeSimilar2_e19 planeSimilar2_e21
def planeSimilar2_e23 : RE := .div planeSimilar2_e22 planeSimilar2_e9
def planeSimilar2_e24 : RE := .mul planeSimilar2_e3 planeSimilar2_e23
def planeSimilar2_e25 : RE := .add (.add (.v 6) (.sub (.v 5) (.v 1))) planeSimilar2_e24
def planeSimilar2_e26 : RE := .mul (.sub (.v 2) (.v 0)) planeSimilar2_e13
def planeSimilar2_e27 : RE := .add (.v 0) planeSimilar2_e26
def planeSimilar2_e28 : RE := .sub planeSimilar2_e27 (.v 4)
def planeSimilar2_e29 : RE := .add (.v 7) planeSimilar2_e28
def planeSimilar2_e30 : RE := .mul planeSimilar2_e7 planeSimilar2_e23
def planeSimilar2_e31 : RE := .add (.add (.v 7) (.sub (.v 0) (.v 4))) planeSimilar2_e30
def planeSimilar2_A0 : Orc := { cmp := [(planeSimilar2_e2, (.z 0), -1), (planeSimilar2_e9, (.z 0), -1), (planeSimilar2_e17, planeSimilar2_e25, 0), (planeSimilar2_e29, planeSimilar2_e31, 0)] }
theorem planeSimilar2_p0 (fl : Bool) : (stepN Tryz.prog (ctrA planeSimilar2_A0) 20 3 (restN 3 (restN 4 planeSimilar_c)) (planeSimilar_k1 fl).vn 105).map (digest (planeSimilar_k2 fl) 140) = some (planeSimilar_k2 fl).want := by kernel_rfl
def planeSimilar2_A1 : Orc := { cmp := [(planeSimilar2_e2, (.z 0), 0), (planeSimilar2_e9, (.z 0), 0)] }
theorem planeSimilar2_p1 (fl : Bool) : (stepN Tryz.prog (ctrA planeSimilar2_A1) 20 3 (restN 3 (restN 4 planeSimilar_c)) (planeSimilar_k1 fl).vn 105).map (digest (planeSimilar_k2 fl) 140) = some (planeSimilar_k2 fl).want := by kernel_rfl
def planeSimilar2_A2 : Orc := { cmp := [(planeSimilar2_e2, (.z 0), 1), (planeSimilar2_e9, (.z 0), 1), (planeSimilar2_e17, planeSimilar2_e25, 0), (planeSimilar2_e29, planeSimilar2_e31, 0)] }
theorem planeSimilar2_p2 (fl : Bool) : (stepN Tryz.prog (ctrA planeSimilar2_A2) 20 3 (restN 3 (restN 4 planeSimilar_c)) (planeSimilar_k1 fl).vn 105).map (digest (planeSimilar_k2 fl) 140) = some (planeSimilar_k2 fl).want := by kernel_rfl
theorem planeSimilar2_dec (ρ : Nat → Rat) (fl : Bool) : ∃ (ρ' : Nat → Rat) (A : Orc), (∀ k, k < 9 → ρ' k = ρ k) ∧ A.OK ρ' ∧ (stepN Tryz.prog (ctrA A) 20 3 (restN 3 (restN 4 planeSimilar_c)) (planeSimilar_k1 fl).vn 105).map (digest (planeSimilar_k2 fl) 140) = some (planeSimilar_k2 fl).want := by
  rcases cmpR_bound (RE.eval ρ planeSimilar2_e2) (RE.eval ρ (.z 0)) with h0 | h0 | h0
  · skip
    have h1 := cmpR_like (likeC (x := planeSimilar2_e9) (y := (.z 0)) (k := (.z 1)) (p := planeSimilar2_e2) (q := (.z 0)) (nz := [planeSimilar2_e2, (.z 2)]) (varsA ρ) (nz_cons (ne_of_cmp h0 rfl) (nz_cons (two_ne _) nz_nil)) (by kernel_rfl)) (show (0 : Rat) < ((1 : Int) : Rat) from by decide +kernel) h0
    have h2 := cmpR_zero.2 (eqC (x := planeSimilar2_e17) (y := planeSimilar2_e25) (nz := [planeSimilar2_e2, planeSimilar2_e9, (.z 2)]) (varsA ρ) (nz_cons (ne_of_cmp h0 rfl) (nz_cons (ne_of_cmp h1 rfl) (nz_cons (two_ne _) nz_nil))) (by kernel_rfl))
    have h3 := cmpR_zero.2 (eqC (x := planeSimilar2_e29) (y := planeSimilar2_e31) (nz := [planeSimilar2_e2, planeSimilar2_e9, (.z 2)]) (varsA ρ) (nz_cons (ne_of_cmp h0 rfl) (nz_cons (ne_of_cmp h1 rfl) (nz_cons (two_ne _) nz_nil))) (by kernel_rfl))
    exact ⟨ρ, planeSimilar2_A0, (fun _ _ => rfl), (orc_cmp h0 (orc_cmp h1 (orc_cmp h2 (orc_cmp h3 orc_nil)))), planeSimilar2_p0 fl⟩
  · skip
    have h1 := cmpR_like (likeC (x := planeSimilar2_e9) (y := (.z 0)) (k := (.z 1)) (p := planeSimilar2_e2) (q := (.z 0)) (nz := [(.z 2)]) (varsA ρ) (nz_cons (two_ne _) nz_nil) (by kernel_rfl)) (show (0 : Rat) < ((1 : Int) : Rat) from by decide +kernel) h0
    exact ⟨ρ, planeSimilar2_A1, (fun _ _ => rfl), (orc_cmp h0 (orc_cmp h1 orc_nil)), planeSimilar2_p1 fl⟩
  · skip
    have h1 := cmpR_like (likeC (x := planeSimilar2_e9) (y := (.z 0)) (k := (.z 1)) (p := planeSimilar2_e2) (q := (.z 0)) (nz := [planeSimilar2_e2, (.z 2)]) (varsA ρ) (nz_cons (ne_of_cmp h0 rfl) (nz_cons (two_ne _) nz_nil)) (by kernel_rfl)) (show (0 : Rat) < ((1 : Int) : Rat) from by decide +kernel) h0
    have h2 := cmpR_zero.2 (eqC (x := planeSimilar2_e17) (y := planeSimilar2_e25) (nz := [planeSimilar2_e2, planeSimilar2_e9, (.z 2)]) (varsA ρ) (nz_cons (ne_of_cmp h0 rfl) (nz_cons (ne_of_cmp h1 rfl) (nz_cons (two_ne _) nz_nil))) (by kernel_rfl))
    have h3 := cmpR_zero.2 (eqC (x := planeSimilar2_e29) (y := planeSimilar2_e31) (nz := [planeSimilar2_e2, planeSimilar2_e9, (.z 2)]) (varsA ρ) (nz_cons (ne_of_cmp h0 rfl) (nz_cons (ne_of_cmp h1 rfl) (nz_cons (two_ne _) nz_nil))) (by kernel_rfl))
    exact ⟨ρ, planeSimilar2_A2, (fun _ _ => rfl), (orc_cmp h0 (orc_cmp h1 (orc_cmp h2 (orc_cmp h3 orc_nil)))), planeSimilar2_p2 fl⟩

theorem planeSimilar_q2 (fl : Bool) : PieceOK (restN 3 (restN 4 planeSimilar_c)) (planeSimilar_k1 fl).vn 105 3 (planeSimilar_k2 fl) 140 := fun ρ => planeSimilar2_dec ρ fl
noncomputable def planeSimilar_k3 (fl : Bool) : Keep KQ := { sl := [(1, .val false [.ptr 2 0]), (3, .val false [.ptr 28 0]), (4, .val false [.ptr 82 0]), (6, .val false [.ptr 95 0])], bl := [(2, ⟨31, cells9 9 ++ [.lit (.bool fl)]⟩), (28, ⟨31, [.sym 10 0 0, .sym 10 0 1, .sym 10 0 2, .sym 10 1 0, .sym 10 1 1, .sym 10 1 2, .sym 14 0 0, .sym 14 0 1, .sym 14 0 2, .sym 14 1 0, .sym 14 1 1, .sym 14 1 2, .sym 18 0 0, .sym 18 0 1, .sym 18 0 2, .sym 18 1 0, .sym 18 1 1, .sym 18 1 2, .sym 22 0 0, .sym 22 0 1, .sym 22 0 2, .sym 22 1 0, .sym 22 1 1, .sym 22 1 2, .sym 0 8 0, .sym 0 8 1, .sym 0 8 2, .lit (.bool fl)]⟩)], bx := [(82, 29, 6), (95, 29, 6)], ks := [(0, 0, .num 0 (.v 0) 2), (0, 1, .num 1 (.v 1) 2), (0, 2, .num 2 (.v 2) 2), (0, 3, .num 3 (.v 3) 2), (0, 4, .num 4 (.v 4) 2), (0, 5, .num 5 (.v 5) 2), (0, 6, .num 6 (.v 6) 2), (0, 7, .num 7 (.v 7) 2), (0, 8, .num 8 (.v 8) 2), (10, 0, .rat (.add (.v 6) (.sub (.v 5) (.v 1))) 8), (10, 1, .rat (.add (.v 7) (.sub (.v 0) (.v 4))) 8), (14, 0, .rat (.add (.v 6) (.sub (.v 5) (.v 3))) 8), (14, 1, .rat (.add (.v 7) (.sub (.v 2) (.v 4))) 8), (18, 0, .rat (.add (.v 6) (.sub (.v 5) (.v 5))) 8), (18, 1, .rat (.add (.v 7) (.sub (.v 4) (.v 4))) 8), (22, 0, .rat (.add (.v 6) (.sub (.v 5) (.v 7))) 8), (22, 1, .rat (.add (.v 7) (.sub (.v 6) (.v 4))) 8)], n := 255, ob := 2 }
def planeSimilar3_e0 : RE := .mul (.sub (.v 2) (.v 0)) (.sub (.v 5) (.v 1))
def planeSimilar3_e1 : RE := .mul (.sub (.v 3) (.v 1)) (.sub (.v 4) (.v 0))
def planeSimilar3_e2 : RE := .sub planeSimilar3_e0 planeSimilar3_e1
def planeSimilar3_e3 : RE := .mul (.z 2) planeSimilar3_e2
def planeSimilar3_e4 : RE := .sub (.add (.v 6) (.sub (.v 5) (.v 3))) (.add (.v 6) (.sub (.v 5) (.v 1)))
def planeSimilar3_e5 : RE := .sub (.add (.v 7) (.sub (.v 4) (.v 4))) (.add (.v 7) (.sub (.v 0) (.v 4)))
def planeSimilar3_e6 : RE := .mul planeSimilar3_e4 planeSimilar3_e5
def planeSimilar3_e7 : RE := .sub (.add (.v 6) (.sub (.v 5) (.v 5))) (.add (.v 6) (.sub (.v 5) (.v 1)))
def planeSimilar3_e8 : RE := .sub (.add (.v 7) (.sub (.v 2) (.v 4))) (.add (.v 7) (.sub (.v 0) (.v 4)))
def planeSimilar3_e9 : RE := .mul planeSimilar3_e7 planeSimilar3_e8
def planeSimilar3_e10 : RE := .sub planeSimilar3_e6 planeSimilar3_e9
def planeSimilar3_e11 : RE := .mul (.z 2) planeSimilar3_e10
def planeSimilar3_e12 : RE := .mul (.sub (.v 4) (.v 0)) (.sub (.v 4) (.v 0))
def planeSimilar3_e13 : RE := .mul (.sub (.v 5) (.v 1)) (.sub (.v 5) (.v 1))
def planeSimilar3_e14 : RE := .add planeSimilar3_e12 planeSimilar3_e13
def planeSimilar3_e15 : RE := .mul planeSimilar3_e14 (.sub (.v 2) (.v 0))
def planeSimilar3_e16 : RE := .mul (.sub (.v 2) (.v 0)) (.sub (.v 2) (.v 0))
def planeSimilar3_e17 : RE := .mul (.sub (.v 3) (.v 1)) (.sub (.v 3) (.v 1))
def planeSimilar3_e18 : RE := .add planeSimilar3_e16 planeSimilar3_e17
def planeSimilar3_e19 : RE := .mul planeSimilar3_e18 (.sub (.v 4) (.v 0))
def planeSimilar3_e20 : RE := .sub planeSimilar3_e15 planeSimilar3_e19
def planeSimilar3_e21 : RE := .div (.z 1) planeSimilar3_e3
def planeSimilar3_e22 : RE := .mul planeSimilar3_e20 planeSimilar3_e21
def planeSimilar3_e23 : RE := .add (.v 1) planeSimilar3_e22
def planeSimilar3_e24 : RE := .sub (.v 5) planeSimilar3_e23
def planeSimilar3_e25 : RE := .add (.v 6) planeSimilar3_e24
def planeSimilar3_e26 : RE := .mul planeSimilar3_e4 planeSimilar3_e4
def planeSimilar3_e27 : RE := .mul planeSimilar3_e8 planeSimilar3_e8
def planeSimilar3_e28 : RE := .add planeSimilar3_e26 planeSimilar3_e27
def planeSimilar3_e29 : RE := .mul planeSimilar3_e28 planeSimilar3_e5
def planeSimilar3_e30 : RE := .mul planeSimilar3_e7 planeSimilar3_e7
def planeSimilar3_e31 : RE := .mul planeSimilar3_e5 planeSimilar3_e5
def planeSimilar3_e32 : RE := .add planeSimilar3_e30 planeSimilar3_e31
def planeSimilar3_e33 : RE := .mul planeSimilar3_e32 planeSimilar3_e8
def planeSimilar3_e34 : RE := .sub planeSimilar3_e29 planeSimilar3_e33
def planeSimilar3_e35 : RE := .div (.z 1) planeSimilar3_e11
def planeSimilar3_e36 : RE := .mul planeSimilar3_e34 planeSimilar3_e35
def planeSimilar3_e37 : RE := .add (.add (.v 6) (.sub (.v 5) (.v 1))) planeSimilar3_e36
def planeSimilar3_e38 : RE := .mul planeSimilar3_e18 (.sub (.v 5) (.v 1))
def planeSimilar3_e39 : RE := .mul planeSimilar3_e14 (.sub (.v 3) (.v 1))
def planeSimilar3_e40 : RE := .sub planeSimilar3_e38 planeSimilar3_e39
def planeSimilar3_e41 : RE := .mul planeSimilar3_e40 planeSimilar3_e21
def planeSimilar3_e42 : RE := .add (.v 0) planeSimilar3_e41
def planeSimilar3_e43 : RE := .sub planeSimilar3_e42 (.v 4)
def planeSimilar3_e44 : RE := .add (.v 7) planeSimilar3_e43
def planeSimilar3_e45 : RE := .mul planeSimilar3_e32 planeSimilar3_e4
def planeSimilar3_e46 : RE := .mul planeSimilar3_e28 planeSimilar3_e7
def planeSimilar3_e47 : RE := .sub planeSimilar3_e45 planeSimilar3_e46
def planeSimilar3_e48 : RE := .mul planeSimilar3_e47 planeSimilar3_e35
def planeSimilar3_e49 : RE := .add (.add (.v 7) (.sub (.v 0) (.v 4))) planeSimilar3_e48
def planeSimilar3_A0 : Orc := { cmp := [(planeSimilar3_e3, (.z 0), -1), (planeSimilar3_e11, (.z 0), -1), (planeSimilar3_e25, planeSimilar3_e37, 0), (planeSimilar3_e44, planeSimilar3_e49, 0)] }
theorem planeSimilar3_p0 (fl : Bool) : (stepN Tryz.prog (ctrA planeSimilar3_A0) 20 3 (restN 3 (restN 3 (restN 4 planeSimilar_c))) (planeSimilar_k2 fl).vn 140).map (digest (planeSimilar_k3 fl) 171) = some (planeSimilar_k3 fl).want := by kernel_rfl
def planeSimilar3_A1 : Orc := { cmp := [(planeSimilar3_e3, (.z 0), 0), (planeSimilar3_e11, (.z 0), 0)] }
theorem planeSimilar3_p1 (fl : Bool) : (stepN Tryz.prog (ctrA planeSimilar3_A1) 20 3 (restN 3 (restN 3 (restN 4 planeSimilar_c))) (planeSimilar_k2 fl).vn 140).map (digest (planeSimilar_k3 fl) 171) = some (planeSimilar_k3 fl).want := by kernel_rfl
def planeSimilar3_A2 : Orc := { cmp := [(planeSimilar3_e3, (.z 0), 1), (planeSimilar3_e11, (.z 0), 1), (planeSimilar3_e25, planeSimilar3_e37, 0), (planeSimilar3_e44, planeSimilar3_e49, 0)] }
theorem planeSimilar3_p2 (fl : Bool) : (stepN Tryz.prog (ctrA planeSimilar3_A2) 20 3 (restN 3 (restN 3 (restN 4 planeSimilar_c))) (planeSimilar_k2 fl).vn 140).map (digest (planeSimilar_k3 fl) 171) = some (planeSimilar_k3 fl).want := by kernel_rfl
theorem planeSimilar3_dec (ρ : Nat → Rat) (fl : Bool) : ∃ (ρ' : Nat → Rat) (A : Orc), (∀ k, k < 9 → ρ' k = ρ k) ∧ A.OK ρ' ∧ (stepN Tryz.prog (ctrA A) 20 3 (restN 3 (restN 3 (restN 4 planeSimilar_c))) (planeSimilar_k2 fl).vn 140).map (digest (planeSimilar_k3 fl) 171) = some (planeSimilar_k3 fl).want := by
  rcases cmpR_bound (RE.eval ρ planeSimilar3_e3) (RE.eval ρ (.z 0)) with h0 | h0 | h0
  · skip
    have h1 := cmpR_like (likeC (x := planeSimilar3_e11) (y := (.z 0)) (k := (.z 1)) (p := planeSimilar3_e3) (q := (.z 0)) (nz := [planeSimilar3_e3, (.z 2)]) (varsA ρ) (nz_cons (ne_of_cmp h0 rfl) (nz_cons (two_ne _) nz_nil)) (by kernel_rfl)) (show (0 : Rat) < ((1 : Int) : Rat) from by decide +kernel) h0
    have h2 := cmpR_zero.2 (eqC (x := planeSimilar3_e25) (y := planeSimilar3_e37) (nz := [planeSimilar3_e3, planeSimilar3_e11, (.z 2)]) (varsA ρ) (nz_cons (ne_of_cmp h0 rfl) (nz_cons (ne_of_cmp h1 rfl) (nz_cons (two_ne _) nz_nil))) (by kernel_rfl))
    have h3 := cmpR_zero.2 (eqC (x := planeSimilar3_e44) (y := planeSimilar3_e49) (nz := [planeSimilar3_e3, planeSimilar3_e11, (.z 2)]) (varsA ρ) (nz_cons (ne_of_cmp h0 rfl) (nz_cons (ne_of_cmp h1 rfl) (nz_cons (two_ne _) nz_nil))) (by kernel_rfl))
    exact ⟨ρ, planeSimilar3_A0, (fun _ _ => rfl), (orc_cmp h0 (orc_cmp h1 (orc_cmp h2 (orc_cmp h3 orc_nil)))), planeSimilar3_p0 fl⟩
  · skip
    have h1 := cmpR_like (likeC (x := planeSimilar3_e11) (y := (.z 0)) (k := (.z 1)) (p := planeSimilar3_e3) (q := (.z 0)) (nz := [(.z 2)]) (varsA ρ) (nz_cons (two_ne _) nz_nil) (by kernel_rfl)) (show (0 : Rat) < ((1 : Int) : Rat) from by decide +kernel) h0
    exact ⟨ρ, planeSimilar3_A1, (fun _ _ => rfl), (orc_cmp h0 (orc_cmp h1 orc_nil)), planeSimilar3_p1 fl⟩
  · skip
    have h1 := cmpR_like (likeC (x := planeSimilar3_e11) (y := (.z 0)) (k := (.z 1)) (p := planeSimilar3_e3) (q := (.z 0)) (nz := [planeSimilar3_e3, (.z 2)]) (varsA ρ) (nz_cons (ne_of_cmp h0 rfl) (nz_cons (two_ne _) nz_nil)) (by kernel_rfl)) (show (0 : Rat) < ((1 : Int) : Rat) from by decide +kernel) h0
    have h2 := cmpR_zero.2 (eqC (x := planeSimilar3_e25) (y := planeSimilar3_e37) (nz := [planeSimilar3_e3, planeSimilar3_e11, (.z 2)]) (varsA ρ) (nz_cons (ne_of_cmp h0 rfl) (nz_cons (ne_of_cmp h1 rfl) (nz_cons (two_ne _) nz_nil))) (by kernel_rfl))
    have h3 := cmpR_zero.2 (eqC (x := planeSimilar3_e44) (y := planeSimilar3_e49) (nz := [planeSimilar3_e3, planeSimilar3_e11, (.z 2)]) (varsA ρ) (nz_cons (ne_of_cmp h0 rfl) (nz_cons (ne_of_cmp h1 rfl) (nz_cons (two_ne _) nz_nil))) (by kernel_rfl))
    exact ⟨ρ, planeSimilar3_A2, (fun _ _ => rfl), (orc_cmp h0 (orc_cmp h1 (orc_cmp h2 (orc_cmp h3 orc_nil)))), planeSimilar3_p2 fl⟩

theorem planeSimilar_q3 (fl : Bool) : PieceOK (restN 3 (restN 3 (restN 4 planeSimilar_c))) (planeSimilar_k2 fl).vn 140 3 (planeSimilar_k3 fl) 171 := fun ρ => planeSimilar3_dec ρ fl
noncomputable def planeSimilar_k4 (fl : Bool) : Keep KQ := { sl := [(1, .val false [.ptr 2 0]), (3, .val false [.ptr 28 0]), (4, .val false [.ptr 82 0]), (6, .val false [.ptr 95 0])], bl := [(2, ⟨31, cells9 9 ++ [.lit (.bool fl)]⟩), (28, ⟨31, [.sym 10 0 0, .sym 10 0 1, .sym 10 0 2, .sym 10 1 0, .sym 10 1 1, .sym 10 1 2, .sym 14 0 0, .sym 14 0 1, .sym 14 0 2, .sym 14 1 0, .sym 14 1 1, .sym 14 1 2, .sym 18 0 0, .sym 18 0 1, .sym 18 0 2, .sym 18 1 0, .sym 18 1 1, .sym 18 1 2, .sym 22 0 0, .sym 22 0 1, .sym 22 0 2, .sym 22 1 0, .sym 22 1 1, .sym 22 1 2, .sym 0 8 0, .sym 0 8 1, .sym 0 8 2, .lit (.bool fl)]⟩)], bx := [(82, 29, 6), (95, 29, 6)], ks := [(0, 0, .num 0 (.v 0) 2), (0, 1, .num 1 (.v 1) 2), (0, 2, .num 2 (.v 2) 2), (0, 3, .num 3 (.v 3) 2), (0, 4, .num 4 (.v 4) 2), (0, 5, .num 5 (.v 5) 2), (0, 6, .num 6 (.v 6) 2), (0, 7, .num 7 (.v 7) 2), (0, 8, .num 8 (.v 8) 2), (10, 0, .rat (.add (.v 6) (.sub (.v 5) (.v 1))) 8), (10, 1, .rat (.add (.v 7) (.sub (.v 0) (.v 4))) 8), (14, 0, .rat (.add (.v 6) (.sub (.v 5) (.v 3))) 8), (14, 1, .rat (.add (.v 7) (.sub (.v 2) (.v 4))) 8), (18, 0, .rat (.add (.v 6) (.sub (.v 5) (.v 5))) 8), (18, 1, .rat (.add (.v 7) (.sub (.v 4) (.v 4))) 8), (22, 0, .rat (.add (.v 6) (.sub (.v 5) (.v 7))) 8), (22, 1, .rat (.add (.v 7) (.sub (.v 6) (.v 4))) 8)], n := 255, ob := 2 }
def planeSimilar4_e0 : RE := .mul (.sub (.v 2) (.v 0)) (.sub (.v 2) (.v 0))
def planeSimilar4_e1 : RE := .mul (.sub (.v 3) (.v 1)) (.sub (.v 3) (.v 1))
def planeSimilar4_e2 : RE := .add planeSimilar4_e0 planeSimilar4_e1
def planeSimilar4_e3 : RE := .sub (.add (.v 6) (.sub (.v 5) (.v 3))) (.add (.v 6) (.sub (.v 5) (.v 1)))
def planeSimilar4_e4 : RE := .mul planeSimilar4_e3 planeSimilar4_e3
def planeSimilar4_e5 : RE := .sub (.add (.v 7) (.sub (.v 2) (.v 4))) (.add (.v 7) (.sub (.v 0) (.v 4)))
def planeSimilar4_e6 : RE := .mul planeSimilar4_e5 planeSimilar4_e5
def planeSimilar4_e7 : RE := .add planeSimilar4_e4 planeSimilar4_e6
def planeSimilar4_e8 : RE := .mul (.sub (.v 2) (.v 0)) (.sub (.v 6) (.v 0))
def planeSimilar4_e9 : RE := .mul (.sub (.v 3) (.v 1)) (.sub (.v 7) (.v 1))
def planeSimilar4_e10 : RE := .add planeSimilar4_e8 planeSimilar4_e9
def planeSimilar4_e11 : RE := .mul (.z 2) planeSimilar4_e10
def planeSimilar4_e12 : RE := .div planeSimilar4_e11 planeSimilar4_e2
def planeSimilar4_e13 : RE := .mul (.sub (.v 3) (.v 1)) planeSimilar4_e12
def planeSimilar4_e14 : RE := .add (.v 1) planeSimilar4_e13
def planeSimilar4_e15 : RE := .sub (.v 5) planeSimilar4_e14
def planeSimilar4_e16 : RE := .add (.v 6) planeSimilar4_e15
def planeSimilar4_e17 : RE := .sub (.add (.v 6) (.sub (.v 5) (.v 7))) (.add (.v 6) (.sub (.v 5) (.v 1)))
def planeSimilar4_e18 : RE := .mul planeSimilar4_e3 planeSimilar4_e17
def planeSimilar4_e19 : RE := .sub (.add (.v 7) (.sub (.v 6) (.v 4))) (.add (.v 7) (.sub (.v 0) (.v 4)))
def planeSimilar4_e20 : RE := .mul planeSimilar4_e5 planeSimilar4_e19
def planeSimilar4_e21 : RE := .add planeSimilar4_e18 planeSimilar4_e20
def planeSimilar4_e22 : RE := .mul (.z 2) planeSimilar4_e21
def planeSimilar4_e23 : RE := .div planeSimilar4_e22 planeSimilar4_e7
def planeSimilar4_e24 : RE := .mul planeSimilar4_e3 planeSimilar4_e23
def planeSimilar4_e25 : RE := .add (.add (.v 6) (.sub (.v 5) (.v 1))) planeSimilar4_e24
def planeSimilar4_e26 : RE := .mul (.sub (.v 2) (.v 0)) planeSimilar4_e12
def planeSimilar4_e27 : RE := .add (.v 0) planeSimilar4_e26
def planeSimilar4_e28 : RE := .sub planeSimilar4_e27 (.v 4)
def planeSimilar4_e29 : RE := .add (.v 7) planeSimilar4_e28
def planeSimilar4_e30 : RE := .mul planeSimilar4_e5 planeSimilar4_e23
def planeSimilar4_e31 : RE := .add (.add (.v 7) (.sub (.v 0) (.v 4))) planeSimilar4_e30
def planeSimilar4_A0 : Orc := { cmp := [((.v 0), (.v 2), 0), ((.v 1), (.v 3), 0), ((.add (.v 6) (.sub (.v 5) (.v 1))), (.add (.v 6) (.sub (.v 5) (.v 3))), 0), ((.add (.v 7) (.sub (.v 0) (.v 4))), (.add (.v 7) (.sub (.v 2) (.v 4))), 0)] }
theorem planeSimilar4_p0 (fl : Bool) : (stepN Tryz.prog (ctrA planeSimilar4_A0) 20 3 (restN 3 (restN 3 (restN 3 (restN 4 planeSimilar_c)))) (planeSimilar_k3 fl).vn 171).map (digest (planeSimilar_k4 fl) 202) = some (planeSimilar_k4 fl).want := by kernel_rfl
def planeSimilar4_A1 : Orc := { cmp := [((.v 0), (.v 2), 0), (planeSimilar4_e16, planeSimilar4_e25, 0), (planeSimilar4_e29, planeSimilar4_e31, 0)], ne := [((.v 1), (.v 3)), (planeSimilar4_e2, (.z 0)), ((.add (.v 6) (.sub (.v 5) (.v 1))), (.add (.v 6) (.sub (.v 5) (.v 3)))), (planeSimilar4_e7, (.z 0))] }
theorem planeSimilar4_p1 (fl : Bool) : (stepN Tryz.prog (ctrA planeSimilar4_A1) 20 3 (restN 3 (restN 3 (restN 3 (restN 4 planeSimilar_c)))) (planeSimilar_k3 fl).vn 171).map (digest (planeSimilar_k4 fl) 202) = some (planeSimilar_k4 fl).want := by kernel_rfl
def planeSimilar4_A2 : Orc := { cmp := [((.add (.v 6) (.sub (.v 5) (.v 1))), (.add (.v 6) (.sub (.v 5) (.v 3))), 0), (planeSimilar4_e16, planeSimilar4_e25, 0), (planeSimilar4_e29, planeSimilar4_e31, 0)], ne := [((.v 0), (.v 2)), (planeSimilar4_e2, (.z 0)), ((.add (.v 7) (.sub (.v 0) (.v 4))), (.add (.v 7) (.sub (.v 2) (.v 4)))), (planeSimilar4_e7, (.z 0))] }
theorem planeSimilar4_p2 (fl : Bool) : (stepN Tryz.prog (ctrA planeSimilar4_A2) 20 3 (restN 3 (restN 3 (restN 3 (restN 4 planeSimilar_c)))) (planeSimilar_k3 fl).vn 171).map (digest (planeSimilar_k4 fl) 202) = some (planeSimilar_k4 fl).want := by kernel_rfl
def planeSimilar4_A3 : Orc := { cmp := [(planeSimilar4_e16, planeSimilar4_e25, 0), (planeSimilar4_e29, planeSimilar4_e31, 0)], ne := [((.v 0), (.v 2)), (planeSimilar4_e2, (.z 0)), ((.add (.v 6) (.sub (.v 5) (.v 1))), (.add (.v 6) (.sub (.v 5) (.v 3)))), (planeSimilar4_e7, (.z 0))] }
theorem planeSimilar4_p3 (fl : Bool) : (stepN Tryz.prog (ctrA planeSimilar4_A3) 20 3 (restN 3 (restN 3 (restN 3 (restN 4 planeSimilar_c)))) (planeSimilar_k3 fl).vn 171).map (digest (planeSimilar_k4 fl) 202) = some (planeSimilar_k4 fl).want := by kernel_rfl
theorem planeSimilar4_dec (ρ : Nat → Rat) (fl : Bool) : ∃ (ρ' : Nat → Rat) (A : Orc), (∀ k, k < 9 → ρ' k = ρ k) ∧ A.OK ρ' ∧ (stepN Tryz.prog (ctrA A) 20 3 (restN 3 (restN 3 (restN 3 (restN 4 planeSimilar_c)))) (planeSimilar_k3 fl).vn 171).map (digest (planeSimilar_k4 fl) 202) = some (planeSimilar_k4 fl).want := by
  by_cases h0 : RE.eval ρ (.v 0) = RE.eval ρ (.v 2)
  · have g0 := h0
    replace h0 := cmpR_zero.2 h0
    by_cases h1 : RE.eval ρ (.v 1) = RE.eval ρ (.v 3)
    · have g1 := h1
      replace h1 := cmpR_zero.2 h1
      have h2 := cmpR_zero.2 (eqC (x := (.add (.v 6) (.sub (.v 5) (.v 1)))) (y := (.add (.v 6) (.sub (.v 5) (.v 3)))) (nz := [(.z 2)]) (varsA_2_3 ρ g0.symm g1.symm) (nz_cons (two_ne _) nz_nil) (by kernel_rfl))
      have h3 := cmpR_zero.2 (eqC (x := (.add (.v 7) (.sub (.v 0) (.v 4)))) (y := (.add (.v 7) (.sub (.v 2) (.v 4)))) (nz := [(.z 2)]) (varsA_2_3 ρ g0.symm g1.symm) (nz_cons (two_ne _) nz_nil) (by kernel_rfl))
      exact ⟨ρ, planeSimilar4_A0, (fun _ _ => rfl), (orc_cmp h0 (orc_cmp h1 (orc_cmp h2 (orc_cmp h3 orc_nil)))), planeSimilar4_p0 fl⟩
    · skip
      have h2 := normC (b := planeSimilar4_e2) (x := (.v 1)) (y := (.v 3)) (f := (.sub (.v 2) (.v 0))) (nz := [(.z 2)]) (varsA_2 ρ g0.symm) (nz_cons (two_ne _) nz_nil) (by kernel_rfl) h1
      have h3 := ne_like (likeC (x := (.add (.v 6) (.sub (.v 5) (.v 1)))) (y := (.add (.v 6) (.sub (.v 5) (.v 3)))) (k := (.z (-1))) (p := (.v 1)) (q := (.v 3)) (nz := [planeSimilar4_e2, (.z 2)]) (varsA_2 ρ g0.symm) (nz_cons h2 (nz_cons (two_ne _) nz_nil)) (by kernel_rfl)) (show ((-1 : Int) : Rat) ≠ (0 : Rat) from by decide +kernel) h1
      have h4 := ne_like (likeC (x := planeSimilar4_e7) (y := (.z 0)) (k := (.z 1)) (p := planeSimilar4_e2) (q := (.z 0)) (nz := [planeSimilar4_e2, (.z 2)]) (varsA_2 ρ g0.symm) (nz_cons h2 (nz_cons (two_ne _) nz_nil)) (by kernel_rfl)) (show ((1 : Int) : Rat) ≠ (0 : Rat) from by decide +kernel) h2
      have h5 := cmpR_zero.2 (eqC (x := planeSimilar4_e16) (y := planeSimilar4_e25) (nz := [planeSimilar4_e2, planeSimilar4_e7, (.z 2)]) (varsA_2 ρ g0.symm) (nz_cons h2 (nz_cons h4 (nz_cons (two_ne _) nz_nil))) (by kernel_rfl))
      have h6 := cmpR_zero.2 (eqC (x := planeSimilar4_e29) (y := planeSimilar4_e31) (nz := [planeSimilar4_e2, planeSimilar4_e7, (.z 2)]) (varsA_2 ρ g0.symm) (nz_cons h2 (nz_cons h4 (nz_cons (two_ne _) nz_nil))) (by kernel_rfl))
      exact ⟨ρ, planeSimilar4_A1, (fun _ _ => rfl), (orc_cmp h0 (orc_cmp h5 (orc_cmp h6 (orc_ne h1 (orc_ne h2 (orc_ne h3 (orc_ne h4 orc_nil))))))), planeSimilar4_p1 fl⟩
  · skip
    have h1 := normC (b := planeSimilar4_e2) (x := (.v 0)) (y := (.v 2)) (f := (.sub (.v 3) (.v 1))) (nz := [(.z 2)]) (varsA ρ) (nz_cons (two_ne _) nz_nil) (by kernel_rfl) h0
    by_cases h2 : RE.eval ρ (.add (.v 6) (.sub (.v 5) (.v 1))) = RE.eval ρ (.add (.v 6) (.sub (.v 5) (.v 3)))
    · have g2 := h2
      replace h2 := cmpR_zero.2 h2
      have h3 := ne_like (likeC (x := (.add (.v 7) (.sub (.v 0) (.v 4)))) (y := (.add (.v 7) (.sub (.v 2) (.v 4)))) (k := (.z 1)) (p := (.v 0)) (q := (.v 2)) (nz := [planeSimilar4_e2, (.z 2)]) (varsA ρ) (nz_cons h1 (nz_cons (two_ne _) nz_nil)) (by kernel_rfl)) (show ((1 : Int) : Rat) ≠ (0 : Rat) from by decide +kernel) h0
      have h4 := ne_like (likeC (x := planeSimilar4_e7) (y := (.z 0)) (k := (.z 1)) (p := planeSimilar4_e2) (q := (.z 0)) (nz := [planeSimilar4_e2, (.z 2)]) (varsA ρ) (nz_cons h1 (nz_cons (two_ne _) nz_nil)) (by kernel_rfl)) (show ((1 : Int) : Rat) ≠ (0 : Rat) from by decide +kernel) h1
      have h5 := cmpR_zero.2 (eqC (x := planeSimilar4_e16) (y := planeSimilar4_e25) (nz := [planeSimilar4_e2, planeSimilar4_e7, (.z 2)]) (varsA ρ) (nz_cons h1 (nz_cons h4 (nz_cons (two_ne _) nz_nil))) (by kernel_rfl))
      have h6 := cmpR_zero.2 (eqC (x := planeSimilar4_e29) (y := planeSimilar4_e31) (nz := [planeSimilar4_e2, planeSimilar4_e7, (.z 2)]) (varsA ρ) (nz_cons h1 (nz_cons h4 (nz_cons (two_ne _) nz_nil))) (by kernel_rfl))
      exact ⟨ρ, planeSimilar4_A2, (fun _ _ => rfl), (orc_cmp h2 (orc_cmp h5 (orc_cmp h6 (orc_ne h0 (orc_ne h1 (orc_ne h3 (orc_ne h4 orc_nil))))))), planeSimilar4_p2 fl⟩
    · skip
      have h3 := ne_like (likeC (x := planeSimilar4_e7) (y := (.z 0)) (k := (.z 1)) (p := planeSimilar4_e2) (q := (.z 0)) (nz := [planeSimilar4_e2, (.z 2)]) (varsA ρ) (nz_cons h1 (nz_cons (two_ne _) nz_nil)) (by kernel_rfl)) (show ((1 : Int) : Rat) ≠ (0 : Rat) from by decide +kernel) h1
      have h4 := cmpR_zero.2 (eqC (x := planeSimilar4_e16) (y := planeSimilar4_e25) (nz := [planeSimilar4_e2, planeSimilar4_e7, (.z 2)]) (varsA ρ) (nz_cons h1 (nz_cons h3 (nz_cons (two_ne _) nz_nil))) (by kernel_rfl))
      have h5 := cmpR_zero.2 (eqC (x := planeSimilar4_e29) (y := planeSimilar4_e31) (nz := [planeSimilar4_e2, planeSimilar4_e7, (.z 2)]) (varsA ρ) (nz_cons h1 (nz_cons h3 (nz_cons (two_ne _) nz_nil))) (by kernel_rfl))
      exact ⟨ρ, planeSimilar4_A3, (fun _ _ => rfl), (orc_cmp h4 (orc_cmp h5 (orc_ne h0 (orc_ne h1 (orc_ne h2 (orc_ne h3 orc_nil)))))), planeSimilar4_p3 fl⟩

theorem planeSimilar_q4 (fl : Bool) : PieceOK (restN 3 (restN 3 (restN 3 (restN 4 planeSimilar_c)))) (planeSimilar_k3 fl).vn 171 3 (planeSimilar_k4 fl) 202 := fun ρ => planeSimilar4_dec ρ fl
noncomputable def planeSimilar_k5 (fl : Bool) : Keep KQ := { sl := [(1, .val false [.ptr 2 0]), (3, .val false [.ptr 28 0]), (4, .val false [.ptr 82 0]), (6, .val false [.ptr 95 0])], bl := [(2, ⟨31, cells9 9 ++ [.lit (.bool fl)]⟩), (28, ⟨31, [.sym 10 0 0, .sym 10 0 1, .sym 10 0 2, .sym 10 1 0, .sym 10 1 1, .sym 10 1 2, .sym 14 0 0, .sym 14 0 1, .sym 14 0 2, .sym 14 1 0, .sym 14 1 1, .sym 14 1 2, .sym 18 0 0, .sym 18 0 1, .sym 18 0 2, .sym 18 1 0, .sym 18 1 1, .sym 18 1 2, .sym 22 0 0, .sym 22 0 1, .sym 22 0 2, .sym 22 1 0, .sym 22 1 1, .sym 22 1 2, .sym 0 8 0, .sym 0 8 1, .sym 0 8 2, .lit (.bool fl)]⟩)], bx := [(82, 29, 6), (95, 29, 6)], ks := [(0, 0, .num 0 (.v 0) 2), (0, 1, .num 1 (.v 1) 2), (0, 2, .num 2 (.v 2) 2), (0, 3, .num 3 (.v 3) 2), (0, 4, .num 4 (.v 4) 2), (0, 5, .num 5 (.v 5) 2), (0, 6, .num 6 (.v 6) 2), (0, 7, .num 7 (.v 7) 2), (0, 8, .num 8 (.v 8) 2), (10, 0, .rat (.add (.v 6) (.sub (.v 5) (.v 1))) 8), (10, 1, .rat (.add (.v 7) (.sub (.v 0) (.v 4))) 8), (14, 0, .rat (.add (.v 6) (.sub (.v 5) (.v 3))) 8), (14, 1, .rat (.add (.v 7) (.sub (.v 2) (.v 4))) 8), (18, 0, .rat (.add (.v 6) (.sub (.v 5) (.v 5))) 8), (18, 1, .rat (.add (.v 7) (.sub (.v 4) (.v 4))) 8), (22, 0, .rat (.add (.v 6) (.sub (.v 5) (.v 7))) 8), (22, 1, .rat (.add (.v 7) (.sub (.v 6) (.v 4))) 8)], n := 255, ob := 2 }
def planeSimilar5f_e0 : RE := .mul (.sub (.v 2) (.v 0)) (.sub (.v 4) (.v 0))
def planeSimilar5f_e1 : RE := .mul (.sub (.v 3) (.v 1)) (.sub (.v 5) (.v 1))
def planeSimilar5f_e2 : RE := .add planeSimilar5f_e0 planeSimilar5f_e1
def planeSimilar5f_e3 : RE := .mul (.sub (.v 2) (.v 0)) (.sub (.v 2) (.v 0))
def planeSimilar5f_e4 : RE := .mul (.sub (.v 3) (.v 1)) (.sub (.v 3) (.v 1))
def planeSimilar5f_e5 : RE := .add planeSimilar5f_e3 planeSimilar5f_e4
def planeSimilar5f_e6 : RE := .div planeSimilar5f_e2 planeSimilar5f_e5
def planeSimilar5f_e7 : RE := .mul planeSimilar5f_e6 planeSimilar5f_e6
def planeSimilar5f_e8 : RE := .mul (.sub (.v 4) (.v 0)) (.sub (.v 4) (.v 0))
def planeSimilar5f_e9 : RE := .mul (.sub (.v 5) (.v 1)) (.sub (.v 5) (.v 1))
def planeSimilar5f_e10 : RE := .add planeSimilar5f_e8 planeSimilar5f_e9
def planeSimilar5f_e11 : RE := .mul (.sub (.v 6) (.v 4)) (.sub (.v 6) (.v 4))
def planeSimilar5f_e12 : RE := .mul (.sub (.v 7) (.v 5)) (.sub (.v 7) (.v 5))
def planeSimilar5f_e13 : RE := .add planeSimilar5f_e11 planeSimilar5f_e12
def planeSimilar5f_e14 : RE := .sub planeSimilar5f_e10 planeSimilar5f_e13
def planeSimilar5f_e15 : RE := .div planeSimilar5f_e14 planeSimilar5f_e5
def planeSimilar5f_e16 : RE := .sub planeSimilar5f_e7 planeSimilar5f_e15
def planeSimilar5f_e17 : RE := .sub (.add (.v 6) (.sub (.v 5) (.v 3))) (.add (.v 6) (.sub (.v 5) (.v 1)))
def planeSimilar5f_e18 : RE := .mul planeSimilar5f_e17 planeSimilar5f_e17
def planeSimilar5f_e19 : RE := .sub (.add (.v 7) (.sub (.v 2) (.v 4))) (.add (.v 7) (.sub (.v 0) (.v 4)))
def planeSimilar5f_e20 : RE := .mul planeSimilar5f_e19 planeSimilar5f_e19
def planeSimilar5f_e21 : RE := .add planeSimilar5f_e18 planeSimilar5f_e20
def planeSimilar5f_e22 : RE := .sub (.add (.v 6) (.sub (.v 5) (.v 5))) (.add (.v 6) (.sub (.v 5) (.v 1)))
def planeSimilar5f_e23 : RE := .mul planeSimilar5f_e17 planeSimilar5f_e22
def planeSimilar5f_e24 : RE := .sub (.add (.v 7) (.sub (.v 4) (.v 4))) (.add (.v 7) (.sub (.v 0) (.v 4)))
def planeSimilar5f_e25 : RE := .mul planeSimilar5f_e19 planeSimilar5f_e24
def planeSimilar5f_e26 : RE := .add planeSimilar5f_e23 planeSimilar5f_e25
def planeSimilar5f_e27 : RE := .div planeSimilar5f_e26 planeSimilar5f_e21
def planeSimilar5f_e28 : RE := .mul planeSimilar5f_e27 planeSimilar5f_e27
def planeSimilar5f_e29 : RE := .mul planeSimilar5f_e22 planeSimilar5f_e22
def planeSimilar5f_e30 : RE := .mul planeSimilar5f_e24 planeSimilar5f_e24
def planeSimilar5f_e31 : RE := .add planeSimilar5f_e29 planeSimilar5f_e30
def planeSimilar5f_e32 : RE := .sub (.add (.v 6) (.sub (.v 5) (.v 7))) (.add (.v 6) (.sub (.v 5) (.v 5)))
def planeSimilar5f_e33 : RE := .mul planeSimilar5f_e32 planeSimilar5f_e32
def planeSimilar5f_e34 : RE := .sub (.add (.v 7) (.sub (.v 6) (.v 4))) (.add (.v 7) (.sub (.v 4) (.v 4)))
def planeSimilar5f_e35 : RE := .mul planeSimilar5f_e34 planeSimilar5f_e34
def planeSimilar5f_e36 : RE := .add planeSimilar5f_e33 planeSimilar5f_e35
def planeSimilar5f_e37 : RE := .sub planeSimilar5f_e31 planeSimilar5f_e36
def planeSimilar5f_e38 : RE := .div planeSimilar5f_e37 planeSimilar5f_e21
def planeSimilar5f_e39 : RE := .sub planeSimilar5f_e28 planeSimilar5f_e38
def planeSimilar5f_e40 : RE := .add planeSimilar5f_e6 (.neg (.v 9))
def planeSimilar5f_e41 : RE := .mul planeSimilar5f_e40 (.sub (.v 3) (.v 1))
def planeSimilar5f_e42 : RE := .add (.v 1) planeSimilar5f_e41
def planeSimilar5f_e43 : RE := .sub (.v 5) planeSimilar5f_e42
def planeSimilar5f_e44 : RE := .add (.v 6) planeSimilar5f_e43
def planeSimilar5f_e45 : RE := .add planeSimilar5f_e27 (.neg (.v 9))
def planeSimilar5f_e46 : RE := .mul planeSimilar5f_e45 planeSimilar5f_e17
def planeSimilar5f_e47 : RE := .add (.add (.v 6) (.sub (.v 5) (.v 1))) planeSimilar5f_e46
def planeSimilar5f_e48 : RE := .mul planeSimilar5f_e40 (.sub (.v 2) (.v 0))
def planeSimilar5f_e49 : RE := .add (.v 0) planeSimilar5f_e48
def planeSimilar5f_e50 : RE := .sub planeSimilar5f_e49 (.v 4)
def planeSimilar5f_e51 : RE := .add (.v 7) planeSimilar5f_e50
def planeSimilar5f_e52 : RE := .mul planeSimilar5f_e45 planeSimilar5f_e19
def planeSimilar5f_e53 : RE := .add (.add (.v 7) (.sub (.v 0) (.v 4))) planeSimilar5f_e52
def planeSimilar5f_A0 : Orc := { cmp := [((.v 0), (.v 2), 0), ((.v 1), (.v 3), 0), ((.add (.v 6) (.sub (.v 5) (.v 1))), (.add (.v 6) (.sub (.v 5) (.v 3))), 0), ((.add (.v 7) (.sub (.v 0) (.v 4))), (.add (.v 7) (.sub (.v 2) (.v 4))), 0)] }
theorem planeSimilar5f_p0  : (stepN Tryz.prog (ctrA planeSimilar5f_A0) 20 3 (restN 3 (restN 3 (restN 3 (restN 3 (restN 4 planeSimilar_c))))) (planeSimilar_k4 false).vn 202).map (digest (planeSimilar_k5 false) 241) = some (planeSimilar_k5 false).want := by kernel_rfl
def planeSimilar5f_A1 : Orc := { cmp := [((.v 0), (.v 2), 0), (planeSimilar5f_e16, (.z 0), -1), (planeSimilar5f_e39, (.z 0), -1)], ne := [((.v 1), (.v 3)), (planeSimilar5f_e5, (.z 0)), ((.add (.v 6) (.sub (.v 5) (.v 1))), (.add (.v 6) (.sub (.v 5) (.v 3)))), (planeSimilar5f_e21, (.z 0))] }
theorem planeSimilar5f_p1  : (stepN Tryz.prog (ctrA planeSimilar5f_A1) 20 3 (restN 3 (restN 3 (restN 3 (restN 3 (restN 4 planeSimilar_c))))) (planeSimilar_k4 false).vn 202).map (digest (planeSimilar_k5 false) 241) = some (planeSimilar_k5 false).want := by kernel_rfl
def planeSimilar5f_A2 : Orc := { cmp := [((.v 0), (.v 2), 0), (planeSimilar5f_e16, (.z 0), 0), (planeSimilar5f_e39, (.z 0), 0), (planeSimilar5f_e44, planeSimilar5f_e47, 0), (planeSimilar5f_e51, planeSimilar5f_e53, 0)], sq := [(planeSimilar5f_e16, some (.v 9)), (planeSimilar5f_e39, some (.v 9))], ne := [((.v 1), (.v 3)), (planeSimilar5f_e5, (.z 0)), ((.add (.v 6) (.sub (.v 5) (.v 1))), (.add (.v 6) (.sub (.v 5) (.v 3)))), (planeSimilar5f_e21, (.z 0))] }
theorem planeSimilar5f_p2  : (stepN Tryz.prog (ctrA planeSimilar5f_A2) 20 3 (restN 3 (restN 3 (restN 3 (restN 3 (restN 4 planeSimilar_c))))) (planeSimilar_k4 false).vn 202).map (digest (planeSimilar_k5 false) 241) = some (planeSimilar_k5 false).want := by kernel_rfl
def planeSimilar5f_A3 : Orc := { cmp := [((.v 0), (.v 2), 0), (planeSimilar5f_e16, (.z 0), 0), (planeSimilar5f_e39, (.z 0), 0)], sq := [(planeSimilar5f_e16, none), (planeSimilar5f_e39, none)], ne := [((.v 1), (.v 3)), (planeSimilar5f_e5, (.z 0)), ((.add (.v 6) (.sub (.v 5) (.v 1))), (.add (.v 6) (.sub (.v 5) (.v 3)))), (planeSimilar5f_e21, (.z 0))] }
theorem planeSimilar5f_p3  : (stepN Tryz.prog (ctrA planeSimilar5f_A3) 20 3 (restN 3 (restN 3 (restN 3 (restN 3 (restN 4 planeSimilar_c))))) (planeSimilar_k4 false).vn 202).map (digest (planeSimilar_k5 false) 241) = some (planeSimilar_k5 false).want := by kernel_rfl
def planeSimilar5f_A4 : Orc := { cmp := [((.v 0), (.v 2), 0), (planeSimilar5f_e16, (.z 0), 1), (planeSimilar5f_e39, (.z 0), 1), (planeSimilar5f_e44, planeSimilar5f_e47, 0), (planeSimilar5f_e51, planeSimilar5f_e53, 0)], sq := [(planeSimilar5f_e16, some (.v 9)), (planeSimilar5f_e39, some (.v 9))], ne := [((.v 1), (.v 3)), (planeSimilar5f_e5, (.z 0)), ((.add (.v 6) (.sub (.v 5) (.v 1))), (.add (.v 6) (.sub (.v 5) (.v 3)))), (planeSimilar5f_e21, (.z 0))] }
theorem planeSimilar5f_p4  : (stepN Tryz.prog (ctrA planeSimilar5f_A4) 20 3 (restN 3 (restN 3 (restN 3 (restN 3 (restN 4 planeSimilar_c))))) (planeSimilar_k4 false).vn 202).map (digest (planeSimilar_k5 false) 241) = some (planeSimilar_k5 false).want := by kernel_rfl
def planeSimilar5f_A5 : Orc := { cmp := [((.v 0), (.v 2), 0), (planeSimilar5f_e16, (.z 0), 1), (planeSimilar5f_e39, (.z 0), 1)], sq := [(planeSimilar5f_e16, none), (planeSimilar5f_e39, none)], ne := [((.v 1), (.v 3)), (planeSimilar5f_e5, (.z 0)), ((.add (.v 6) (.sub (.v 5) (.v 1))), (.add (.v 6) (.sub (.v 5) (.v 3)))), (planeSimilar5f_e21, (.z 0))] }
theorem planeSimilar5f_p5  : (stepN Tryz.prog (ctrA planeSimilar5f_A5) 20 3 (restN 3 (restN 3 (restN 3 (restN 3 (restN 4 planeSimilar_c))))) (planeSimilar_k4 false).vn 202).map (digest (planeSimilar_k5 false) 241) = some (planeSimilar_k5 false).want := by kernel_rfl
def planeSimilar5f_A6 : Orc := { cmp := [(planeSimilar5f_e16, (.z 0), -1), ((.add (.v 6) (.sub (.v 5) (.v 1))), (.add (.v 6) (.sub (.v 5) (.v 3))), 0), (planeSimilar5f_e39, (.z 0), -1)], ne := [((.v 0), (.v 2)), (planeSimilar5f_e5, (.z 0)), ((.add (.v 7) (.sub (.v 0) (.v 4))), (.add (.v 7) (.sub (.v 2) (.v 4)))), (planeSimilar5f_e21, (.z 0))] }
theorem planeSimilar5f_p6  : (stepN Tryz.prog (ctrA planeSimilar5f_A6) 20 3 (restN 3 (restN 3 (restN 3 (restN 3 (restN 4 planeSimilar_c))))) (planeSimilar_k4 false).vn 202).map (digest (planeSimilar_k5 false) 241) = some (planeSimilar_k5 false).want := by kernel_rfl
def planeSimilar5f_A7 : Orc := { cmp := [(planeSimilar5f_e16, (.z 0), -1), (planeSimilar5f_e39, (.z 0), -1)], ne := [((.v 0), (.v 2)), (planeSimilar5f_e5, (.z 0)), ((.add (.v 6) (.sub (.v 5) (.v 1))), (.add (.v 6) (.sub (.v 5) (.v 3)))), (planeSimilar5f_e21, (.z 0))] }
theorem planeSimilar5f_p7  : (stepN Tryz.prog (ctrA planeSimilar5f_A7) 20 3 (restN 3 (restN 3 (restN 3 (restN 3 (restN 4 planeSimilar_c))))) (planeSimilar_k4 false).vn 202).map (digest (planeSimilar_k5 false) 241) = some (planeSimilar_k5 false).want := by kernel_rfl
def planeSimilar5f_A8 : Orc := { cmp := [(planeSimilar5f_e16, (.z 0), 0), ((.add (.v 6) (.sub (.v 5) (.v 1))), (.add (.v 6) (.sub (.v 5) (.v 3))), 0), (planeSimilar5f_e39, (.z 0), 0), (planeSimilar5f_e44, planeSimilar5f_e47, 0), (planeSimilar5f_e51, planeSimilar5f_e53, 0)], sq := [(planeSimilar5f_e16, some (.v 9)), (planeSimilar5f_e39, some (.v 9))], ne := [((.v 0), (.v 2)), (planeSimilar5f_e5, (.z 0)), ((.add (.v 7) (.sub (.v 0) (.v 4))), (.add (.v 7) (.sub (.v 2) (.v 4)))), (planeSimilar5f_e21, (.z 0))] }
theorem planeSimilar5f_p8  : (stepN Tryz.prog (ctrA planeSimilar5f_A8) 20 3 (restN 3 (restN 3 (restN 3 (restN 3 (restN 4 planeSimilar_c))))) (planeSimilar_k4 false).vn 202).map (digest (planeSimilar_k5 false) 241) = some (planeSimilar_k5 false).want := by kernel_rfl
def planeSimilar5f_A9 : Orc := { cmp := [(planeSimilar5f_e16, (.z 0), 0), (planeSimilar5f_e39, (.z 0), 0), (planeSimilar5f_e44, planeSimilar5f_e47, 0), (planeSimilar5f_e51, planeSimilar5f_e53, 0)], sq := [(planeSimilar5f_e16, some (.v 9)), (planeSimilar5f_e39, some (.v 9))], ne := [((.v 0), (.v 2)), (planeSimilar5f_e5, (.z 0)), ((.add (.v 6) (.sub (.v 5) (.v 1))), (.add (.v 6) (.sub (.v 5) (.v 3)))), (planeSimilar5f_e21, (.z 0))] }
theorem planeSimilar5f_p9  : (stepN Tryz.prog (ctrA planeSimilar5f_A9) 20 3 (restN 3 (restN 3 (restN 3 (restN 3 (restN 4 planeSimilar_c))))) (planeSimilar_k4 false).vn 202).map (digest (planeSimilar_k5 false) 241) = some (planeSimilar_k5 false).want := by kernel_rfl
def planeSimilar5f_A10 : Orc := { cmp := [(planeSimilar5f_e16, (.z 0), 0), ((.add (.v 6) (.sub (.v 5) (.v 1))), (.add (.v 6) (.sub (.v 5) (.v 3))), 0), (planeSimilar5f_e39, (.z 0), 0)], sq := [(planeSimilar5f_e16, none), (planeSimilar5f_e39, none)], ne := [((.v 0), (.v 2)), (planeSimilar5f_e5, (.z 0)), ((.add (.v 7) (.sub (.v 0) (.v 4))), (.add (.v 7) (.sub (.v 2) (.v 4)))), (planeSimilar5f_e21, (.z 0))] }
theorem planeSimilar5f_p10  : (stepN Tryz.prog (ctrA planeSimilar5f_A10) 20 3 (restN 3 (restN 3 (restN 3 (restN 3 (restN 4 planeSimilar_c))))) (planeSimilar_k4 false).vn 202).map (digest (planeSimilar_k5 false) 241) = some (planeSimilar_k5 false).want := by kernel_rfl
def planeSimilar5f_A11 : Orc := { cmp := [(planeSimilar5f_e16, (.z 0), 0), (planeSimilar5f_e39, (.z 0), 0)], sq := [(planeSimilar5f_e16, none), (planeSimilar5f_e39, none)], ne := [((.v 0), (.v 2)), (planeSimilar5f_e5, (.z 0)), ((.add (.v 6) (.sub (.v 5) (.v 1))), (.add (.v 6) (.sub (.v 5) (.v 3)))), (planeSimilar5f_e21, (.z 0))] }
theorem planeSimilar5f_p11  : (stepN Tryz.prog (ctrA planeSimilar5f_A11) 20 3 (restN 3 (restN 3 (restN 3 (restN 3 (restN 4 planeSimilar_c))))) (planeSimilar_k4 false).vn 202).map (digest (planeSimilar_k5 false) 241) = some (planeSimilar_k5 false).want := by kernel_rfl
def planeSimilar5f_A12 : Orc := { cmp := [(planeSimilar5f_e16, (.z 0), 1), ((.add (.v 6) (.sub (.v 5) (.v 1))), (.add (.v 6) (.sub (.v 5) (.v 3))), 0), (planeSimilar5f_e39, (.z 0), 1), (planeSimilar5f_e44, planeSimilar5f_e47, 0), (planeSimilar5f_e51, planeSimilar5f_e53, 0)], sq := [(planeSimilar5f_e16, some (.v 9)), (planeSimilar5f_e39, some (.v 9))], ne := [((.v 0), (.v 2)), (planeSimilar5f_e5, (.z 0)), ((.add (.v 7) (.sub (.v 0) (.v 4))), (.add (.v 7) (.sub (.v 2) (.v 4)))), (planeSimilar5f_e21, (.z 0))] }
theorem planeSimilar5f_p12  : (stepN Tryz.prog (ctrA planeSimilar5f_A12) 20 3 (restN 3 (restN 3 (restN 3 (restN 3 (restN 4 planeSimilar_c))))) (planeSimilar_k4 false).vn 202).map (digest (planeSimilar_k5 false) 241) = some (planeSimilar_k5 false).want := by kernel_rfl
def planeSimilar5f_A13 : Orc := { cmp := [(planeSimilar5f_e16, (.z 0), 1), (planeSimilar5f_e39, (.z 0), 1), (planeSimilar5f_e44, planeSimilar5f_e47, 0), (planeSimilar5f_e51, planeSimilar5f_e53, 0)], sq := [(planeSimilar5f_e16, some (.v 9)), (planeSimilar5f_e39, some (.v 9))], ne := [((.v 0), (.v 2)), (planeSimilar5f_e5, (.z 0)), ((.add (.v 6) (.sub (.v 5) (.v 1))), (.add (.v 6) (.sub (.v 5) (.v 3)))), (planeSimilar5f_e21, (.z 0))] }
theorem planeSimilar5f_p13  : (stepN Tryz.prog (ctrA planeSimilar5f_A13) 20 3 (restN 3 (restN 3 (restN 3 (restN 3 (restN 4 planeSimilar_c))))) (planeSimilar_k4 false).vn 202).map (digest (planeSimilar_k5 false) 241) = some (planeSimilar_k5 false).want := by kernel_rfl
def planeSimilar5f_A14 : Orc := { cmp := [(planeSimilar5f_e16, (.z 0), 1), ((.add (.v 6) (.sub (.v 5) (.v 1))), (.add (.v 6) (.sub (.v 5) (.v 3))), 0), (planeSimilar5f_e39, (.z 0), 1)], sq := [(planeSimilar5f_e16, none), (planeSimilar5f_e39, none)], ne := [((.v 0), (.v 2)), (planeSimilar5f_e5, (.z 0)), ((.add (.v 7) (.sub (.v 0) (.v 4))), (.add (.v 7) (.sub (.v 2) (.v 4)))), (planeSimilar5f_e21, (.z 0))] }
theorem planeSimilar5f_p14  : (stepN Tryz.prog (ctrA planeSimilar5f_A14) 20 3 (restN 3 (restN 3 (restN 3 (restN 3 (restN 4 planeSimilar_c))))) (planeSimilar_k4 false).vn 202).map (digest (planeSimilar_k5 false) 241) = some (planeSimilar_k5 false).want := by kernel_rfl
def planeSimilar5f_A15 : Orc := { cmp := [(planeSimilar5f_e16, (.z 0), 1), (planeSimilar5f_e39, (.z 0), 1)], sq := [(planeSimilar5f_e16, none), (planeSimilar5f_e39, none)], ne := [((.v 0), (.v 2)), (planeSimilar5f_e5, (.z 0)), ((.add (.v 6) (.sub (.v 5) (.v 1))), (.add (.v 6) (.sub (.v 5) (.v 3)))), (planeSimilar5f_e21, (.z 0))] }
theorem planeSimilar5f_p15  : (stepN Tryz.prog (ctrA planeSimilar5f_A15) 20 3 (restN 3 (restN 3 (restN 3 (restN 3 (restN 4 planeSimilar_c))))) (planeSimilar_k4 false).vn 202).map (digest (planeSimilar_k5 false) 241) = some (planeSimilar_k5 false).want := by kernel_rfl
theorem planeSimilar5f_dec (ρ : Nat → Rat)  : ∃ (ρ' : Nat → Rat) (A : Orc), (∀ k, k < 9 → ρ' k = ρ k) ∧ A.OK ρ' ∧ (stepN Tryz.prog (ctrA A) 20 3 (restN 3 (restN 3 (restN 3 (restN 3 (restN 4 planeSimilar_c))))) (planeSimilar_k4 false).vn 202).map (digest (planeSimilar_k5 false) 241) = some (planeSimilar_k5 false).want := by
  refine ex_up ρ planeSimilar5f_e16 (by kernel_rfl) fun σ up_eq up_root => ?_
  by_cases h0 : RE.eval σ (.v 0) = RE.eval σ (.v 2)
  · have g0 := h0
    replace h0 := cmpR_zero.2 h0
    by_cases h1 : RE.eval σ (.v 1) = RE.eval σ (.v 3)
    · have g1 := h1
      replace h1 := cmpR_zero.2 h1
      have h2 := cmpR_zero.2 (eqC (x := (.add (.v 6) (.sub (.v 5) (.v 1)))) (y := (.add (.v 6) (.sub (.v 5) (.v 3)))) (nz := [(.z 2)]) (varsA_2_3 σ g0.symm g1.symm) (nz_cons (two_ne _) nz_nil) (by kernel_rfl))
      have h3 := cmpR_zero.2 (eqC (x := (.add (.v 7) (.sub (.v 0) (.v 4)))) (y := (.add (.v 7) (.sub (.v 2) (.v 4)))) (nz := [(.z 2)]) (varsA_2_3 σ g0.symm g1.symm) (nz_cons (two_ne _) nz_nil) (by kernel_rfl))
      exact ⟨σ, planeSimilar5f_A0, up_eq, (orc_cmp h0 (orc_cmp h1 (orc_cmp h2 (orc_cmp h3 orc_nil)))), planeSimilar5f_p0⟩
    · skip
      have h2 := normC (b := planeSimilar5f_e5) (x := (.v 1)) (y := (.v 3)) (f := (.sub (.v 2) (.v 0))) (nz := [(.z 2)]) (varsA_2 σ g0.symm) (nz_cons (two_ne _) nz_nil) (by kernel_rfl) h1
      rcases cmpR_bound (RE.eval σ planeSimilar5f_e16) (RE.eval σ (.z 0)) with h3 | h3 | h3
      · skip
        have h4 := ne_like (likeC (x := (.add (.v 6) (.sub (.v 5) (.v 1)))) (y := (.add (.v 6) (.sub (.v 5) (.v 3)))) (k := (.z (-1))) (p := (.v 1)) (q := (.v 3)) (nz := [planeSimilar5f_e5, planeSimilar5f_e16, (.z 2)]) (varsA_2 σ g0.symm) (nz_cons h2 (nz_cons (ne_of_cmp h3 rfl) (nz_cons (two_ne _) nz_nil))) (by kernel_rfl)) (show ((-1 : Int) : Rat) ≠ (0 : Rat) from by decide +kernel) h1
        have h5 := ne_like (likeC (x := planeSimilar5f_e21) (y := (.z 0)) (k := (.z 1)) (p := planeSimilar5f_e5) (q := (.z 0)) (nz := [planeSimilar5f_e5, planeSimilar5f_e16, (.z 2)]) (varsA_2 σ g0.symm) (nz_cons h2 (nz_cons (ne_of_cmp h3 rfl) (nz_cons (two_ne _) nz_nil))) (by kernel_rfl)) (show ((1 : Int) : Rat) ≠ (0 : Rat) from by decide +kernel) h2
        have h6 := cmpR_like (likeC (x := planeSimilar5f_e39) (y := (.z 0)) (k := (.z 1)) (p := planeSimilar5f_e16) (q := (.z 0)) (nz := [planeSimilar5f_e5, planeSimilar5f_e16, planeSimilar5f_e21, (.z 2)]) (varsA_2 σ g0.symm) (nz_cons h2 (nz_cons (ne_of_cmp h3 rfl) (nz_cons h5 (nz_cons (two_ne _) nz_nil)))) (by kernel_rfl)) (show (0 : Rat) < ((1 : Int) : Rat) from by decide +kernel) h3
        exact ⟨σ, planeSimilar5f_A1, up_eq, (orc_cmp h0 (orc_cmp h3 (orc_cmp h6 (orc_ne h1 (orc_ne h2 (orc_ne h4 (orc_ne h5 orc_nil))))))), planeSimilar5f_p1⟩
      · skip
        by_cases h4 : ∃ s : Rat, RE.eval σ planeSimilar5f_e16 = s * s
        · replace h4 := up_root h4
          have h5 := ne_like (likeC (x := (.add (.v 6) (.sub (.v 5) (.v 1)))) (y := (.add (.v 6) (.sub (.v 5) (.v 3)))) (k := (.z (-1))) (p := (.v 1)) (q := (.v 3)) (nz := [planeSimilar5f_e5, (.z 2)]) (varsA_2 σ g0.symm) (nz_cons h2 (nz_cons (two_ne _) nz_nil)) (by kernel_rfl)) (show ((-1 : Int) : Rat) ≠ (0 : Rat) from by decide +kernel) h1
          have h6 := ne_like (likeC (x := planeSimilar5f_e21) (y := (.z 0)) (k := (.z 1)) (p := planeSimilar5f_e5) (q := (.z 0)) (nz := [planeSimilar5f_e5, (.z 2)]) (varsA_2 σ g0.symm) (nz_cons h2 (nz_cons (two_ne _) nz_nil)) (by kernel_rfl)) (show ((1 : Int) : Rat) ≠ (0 : Rat) from by decide +kernel) h2
          have h7 := cmpR_like (likeC (x := planeSimilar5f_e39) (y := (.z 0)) (k := (.z 1)) (p := planeSimilar5f_e16) (q := (.z 0)) (nz := [planeSimilar5f_e5, planeSimilar5f_e21, (.z 2)]) (varsA_2 σ g0.symm) (nz_cons h2 (nz_cons h6 (nz_cons (two_ne _) nz_nil))) (by kernel_rfl)) (show (0 : Rat) < ((1 : Int) : Rat) from by decide +kernel) h3
          have h8 := sq_like (eqC (x := planeSimilar5f_e39) (y := planeSimilar5f_e16) (nz := [planeSimilar5f_e5, planeSimilar5f_e21, (.z 2)]) (varsA_2 σ g0.symm) (nz_cons h2 (nz_cons h6 (nz_cons (two_ne _) nz_nil))) (by kernel_rfl)) h4
          have h9 := cmpR_zero.2 (eqC (x := planeSimilar5f_e44) (y := planeSimilar5f_e47) (nz := [planeSimilar5f_e5, planeSimilar5f_e21, (.z 2)]) (varsA_2 σ g0.symm) (nz_cons h2 (nz_cons h6 (nz_cons (two_ne _) nz_nil))) (by kernel_rfl))
          have h10 := cmpR_zero.2 (eqC (x := planeSimilar5f_e51) (y := planeSimilar5f_e53) (nz := [planeSimilar5f_e5, planeSimilar5f_e21, (.z 2)]) (varsA_2 σ g0.symm) (nz_cons h2 (nz_cons h6 (nz_cons (two_ne _) nz_nil))) (by kernel_rfl))
          exact ⟨σ, planeSimilar5f_A2, up_eq, (orc_cmp h0 (orc_cmp h3 (orc_cmp h7 (orc_cmp h9 (orc_cmp h10 (orc_root h4 (orc_root h8 (orc_ne h1 (orc_ne h2 (orc_ne h5 (orc_ne h6 orc_nil))))))))))), planeSimilar5f_p2⟩
        · replace h4 := not_ex h4
          have h5 := ne_like (likeC (x := (.add (.v 6) (.sub (.v 5) (.v 1)))) (y := (.add (.v 6) (.sub (.v 5) (.v 3)))) (k := (.z (-1))) (p := (.v 1)) (q := (.v 3)) (nz := [planeSimilar5f_e5, (.z 2)]) (varsA_2 σ g0.symm) (nz_cons h2 (nz_cons (two_ne _) nz_nil)) (by kernel_rfl)) (show ((-1 : Int) : Rat) ≠ (0 : Rat) from by decide +kernel) h1
          have h6 := ne_like (likeC (x := planeSimilar5f_e21) (y := (.z 0)) (k := (.z 1)) (p := planeSimilar5f_e5) (q := (.z 0)) (nz := [planeSimilar5f_e5, (.z 2)]) (varsA_2 σ g0.symm) (nz_cons h2 (nz_cons (two_ne _) nz_nil)) (by kernel_rfl)) (show ((1 : Int) : Rat) ≠ (0 : Rat) from by decide +kernel) h2
          have h7 := cmpR_like (likeC (x := planeSimilar5f_e39) (y := (.z 0)) (k := (.z 1)) (p := planeSimilar5f_e16) (q := (.z 0)) (nz := [planeSimilar5f_e5, planeSimilar5f_e21, (.z 2)]) (varsA_2 σ g0.symm) (nz_cons h2 (nz_cons h6 (nz_cons (two_ne _) nz_nil))) (by kernel_rfl)) (show (0 : Rat) < ((1 : Int) : Rat) from by decide +kernel) h3
          have h8 := nosq_like (eqC (x := planeSimilar5f_e39) (y := planeSimilar5f_e16) (nz := [planeSimilar5f_e5, planeSimilar5f_e21, (.z 2)]) (varsA_2 σ g0.symm) (nz_cons h2 (nz_cons h6 (nz_cons (two_ne _) nz_nil))) (by kernel_rfl)) h4
          exact ⟨σ, planeSimilar5f_A3, up_eq, (orc_cmp h0 (orc_cmp h3 (orc_cmp h7 (orc_noroot h4 (orc_noroot h8 (orc_ne h1 (orc_ne h2 (orc_ne h5 (orc_ne h6 orc_nil))))))))), planeSimilar5f_p3⟩
      · skip
        by_cases h4 : ∃ s : Rat, RE.eval σ planeSimilar5f_e16 = s * s
        · replace h4 := up_root h4
          have h5 := ne_like (likeC (x := (.add (.v 6) (.sub (.v 5) (.v 1)))) (y := (.add (.v 6) (.sub (.v 5) (.v 3)))) (k := (.z (-1))) (p := (.v 1)) (q := (.v 3)) (nz := [planeSimilar5f_e5, planeSimilar5f_e16, (.z 2)]) (varsA_2 σ g0.symm) (nz_cons h2 (nz_cons (ne_of_cmp h3 rfl) (nz_cons (two_ne _) nz_nil))) (by kernel_rfl)) (show ((-1 : Int) : Rat) ≠ (0 : Rat) from by decide +kernel) h1
          have h6 := ne_like (likeC (x := planeSimilar5f_e21) (y := (.z 0)) (k := (.z 1)) (p := planeSimilar5f_e5) (q := (.z 0)) (nz := [planeSimilar5f_e5, planeSimilar5f_e16, (.z 2)]) (varsA_2 σ g0.symm) (nz_cons h2 (nz_cons (ne_of_cmp h3 rfl) (nz_cons (two_ne _) nz_nil))) (by kernel_rfl)) (show ((1 : Int) : Rat) ≠ (0 : Rat) from by decide +kernel) h2
          have h7 := cmpR_like (likeC (x := planeSimilar5f_e39) (y := (.z 0)) (k := (.z 1)) (p := planeSimilar5f_e16) (q := (.z 0)) (nz := [planeSimilar5f_e5, planeSimilar5f_e16, planeSimilar5f_e21, (.z 2)]) (varsA_2 σ g0.symm) (nz_cons h2 (nz_cons (ne_of_cmp h3 rfl) (nz_cons h6 (nz_cons (two_ne _) nz_nil)))) (by kernel_rfl)) (show (0 : Rat) < ((1 : Int) : Rat) from by decide +kernel) h3
          have h8 := sq_like (eqC (x := planeSimilar5f_e39) (y := planeSimilar5f_e16) (nz := [planeSimilar5f_e5, planeSimilar5f_e16, planeSimilar5f_e21, planeSimilar5f_e39, (.z 2)]) (varsA_2 σ g0.symm) (nz_cons h2 (nz_cons (ne_of_cmp h3 rfl) (nz_cons h6 (nz_cons (ne_of_cmp h7 rfl) (nz_cons (two_ne _) nz_nil))))) (by kernel_rfl)) h4
          have h9 := cmpR_zero.2 (eqC (x := planeSimilar5f_e44) (y := planeSimilar5f_e47) (nz := [planeSimilar5f_e5, planeSimilar5f_e16, planeSimilar5f_e21, planeSimilar5f_e39, (.z 2)]) (varsA_2 σ g0.symm) (nz_cons h2 (nz_cons (ne_of_cmp h3 rfl) (nz_cons h6 (nz_cons (ne_of_cmp h7 rfl) (nz_cons (two_ne _) nz_nil))))) (by kernel_rfl))
          have h10 := cmpR_zero.2 (eqC (x := planeSimilar5f_e51) (y := planeSimilar5f_e53) (nz := [planeSimilar5f_e5, planeSimilar5f_e16, planeSimilar5f_e21, planeSimilar5f_e39, (.z 2)]) (varsA_2 σ g0.symm) (nz_cons h2 (nz_cons (ne_of_cmp h3 rfl) (nz_cons h6 (nz_cons (ne_of_cmp h7 rfl) (nz_cons (two_ne _) nz_nil))))) (by kernel_rfl))
          exact ⟨σ, planeSimilar5f_A4, up_eq, (orc_cmp h0 (orc_cmp h3 (orc_cmp h7 (orc_cmp h9 (orc_cmp h10 (orc_root h4 (orc_root h8 (orc_ne h1 (orc_ne h2 (orc_ne h5 (orc_ne h6 orc_nil))))))))))), planeSimilar5f_p4⟩
        · replace h4 := not_ex h4
          have h5 := ne_like (likeC (x := (.add (.v 6) (.sub (.v 5) (.v 1)))) (y := (.add (.v 6) (.sub (.v 5) (.v 3)))) (k := (.z (-1))) (p := (.v 1)) (q := (.v 3)) (nz := [planeSimilar5f_e5, planeSimilar5f_e16, (.z 2)]) (varsA_2 σ g0.symm) (nz_cons h2 (nz_cons (ne_of_cmp h3 rfl) (nz_cons (two_ne _) nz_nil))) (by kernel_rfl)) (show ((-1 : Int) : Rat) ≠ (0 : Rat) from by decide +kernel) h1
          have h6 := ne_like (likeC (x := planeSimilar5f_e21) (y := (.z 0)) (k := (.z 1)) (p := planeSimilar5f_e5) (q := (.z 0)) (nz := [planeSimilar5f_e5, planeSimilar5f_e16, (.z 2)]) (varsA_2 σ g0.symm) (nz_cons h2 (nz_cons (ne_of_cmp h3 rfl) (nz_cons (two_ne _) nz_nil))) (by kernel_rfl)) (show ((1 : Int) : Rat) ≠ (0 : Rat) from by decide +kernel) h2
          have h7 := cmpR_like (likeC (x := planeSimilar5f_e39) (y := (.z 0)) (k := (.z 1)) (p := planeSimilar5f_e16) (q := (.z 0)) (nz := [planeSimilar5f_e5, planeSimilar5f_e16, planeSimilar5f_e21, (.z 2)]) (varsA_2 σ g0.symm) (nz_cons h2 (nz_cons (ne_of_cmp h3 rfl) (nz_cons h6 (nz_cons (two_ne _) nz_nil)))) (by kernel_rfl)) (show (0 : Rat) < ((1 : Int) : Rat) from by decide +kernel) h3
          have h8 := nosq_like (eqC (x := planeSimilar5f_e39) (y := planeSimilar5f_e16) (nz := [planeSimilar5f_e5, planeSimilar5f_e16, planeSimilar5f_e21, planeSimilar5f_e39, (.z 2)]) (varsA_2 σ g0.symm) (nz_cons h2 (nz_cons (ne_of_cmp h3 rfl) (nz_cons h6 (nz_cons (ne_of_cmp h7 rfl) (nz_cons (two_ne _) nz_nil))))) (by kernel_rfl)) h4
          exact ⟨σ, planeSimilar5f_A5, up_eq, (orc_cmp h0 (orc_cmp h3 (orc_cmp h7 (orc_noroot h4 (orc_noroot h8 (orc_ne h1 (orc_ne h2 (orc_ne h5 (orc_ne h6 orc_nil))))))))), planeSimilar5f_p5⟩
  · skip
    have h1 := normC (b := planeSimilar5f_e5) (x := (.v 0)) (y := (.v 2)) (f := (.sub (.v 3) (.v 1))) (nz := [(.z 2)]) (varsA σ) (nz_cons (two_ne _) nz_nil) (by kernel_rfl) h0
    rcases cmpR_bound (RE.eval σ planeSimilar5f_e16) (RE.eval σ (.z 0)) with h2 | h2 | h2
    · skip
      by_cases h3 : RE.eval σ (.add (.v 6) (.sub (.v 5) (.v 1))) = RE.eval σ (.add (.v 6) (.sub (.v 5) (.v 3)))
      · have g3 := h3
        replace h3 := cmpR_zero.2 h3
        have h4 := ne_like (likeC (x := (.add (.v 7) (.sub (.v 0) (.v 4)))) (y := (.add (.v 7) (.sub (.v 2) (.v 4)))) (k := (.z 1)) (p := (.v 0)) (q := (.v 2)) (nz := [planeSimilar5f_e5, planeSimilar5f_e16, (.z 2)]) (varsA σ) (nz_cons h1 (nz_cons (ne_of_cmp h2 rfl) (nz_cons (two_ne _) nz_nil))) (by kernel_rfl)) (show ((1 : Int) : Rat) ≠ (0 : Rat) from by decide +kernel) h0
        have h5 := ne_like (likeC (x := planeSimilar5f_e21) (y := (.z 0)) (k := (.z 1)) (p := planeSimilar5f_e5) (q := (.z 0)) (nz := [planeSimilar5f_e5, planeSimilar5f_e16, (.z 2)]) (varsA σ) (nz_cons h1 (nz_cons (ne_of_cmp h2 rfl) (nz_cons (two_ne _) nz_nil))) (by kernel_rfl)) (show ((1 : Int) : Rat) ≠ (0 : Rat) from by decide +kernel) h1
        have h6 := cmpR_like (likeC (x := planeSimilar5f_e39) (y := (.z 0)) (k := (.z 1)) (p := planeSimilar5f_e16) (q := (.z 0)) (nz := [planeSimilar5f_e5, planeSimilar5f_e16, planeSimilar5f_e21, (.z 2)]) (varsA σ) (nz_cons h1 (nz_cons (ne_of_cmp h2 rfl) (nz_cons h5 (nz_cons (two_ne _) nz_nil)))) (by kernel_rfl)) (show (0 : Rat) < ((1 : Int) : Rat) from by decide +kernel) h2
        exact ⟨σ, planeSimilar5f_A6, up_eq, (orc_cmp h2 (orc_cmp h3 (orc_cmp h6 (orc_ne h0 (orc_ne h1 (orc_ne h4 (orc_ne h5 orc_nil))))))), planeSimilar5f_p6⟩
      · skip
        have h4 := ne_like (likeC (x := planeSimilar5f_e21) (y := (.z 0)) (k := (.z 1)) (p := planeSimilar5f_e5) (q := (.z 0)) (nz := [planeSimilar5f_e5, planeSimilar5f_e16, (.z 2)]) (varsA σ) (nz_cons h1 (nz_cons (ne_of_cmp h2 rfl) (nz_cons (two_ne _) nz_nil))) (by kernel_rfl)) (show ((1 : Int) : Rat) ≠ (0 : Rat) from by decide +kernel) h1
        have h5 := cmpR_like (likeC (x := planeSimilar5f_e39) (y := (.z 0)) (k := (.z 1)) (p := planeSimilar5f_e16) (q := (.z 0)) (nz := [planeSimilar5f_e5, planeSimilar5f_e16, planeSimilar5f_e21, (.z 2)]) (varsA σ) (nz_cons h1 (nz_cons (ne_of_cmp h2 rfl) (nz_cons h4 (nz_cons (two_ne _) nz_nil)))) (by kernel_rfl)) (show (0 : Rat) < ((1 : Int) : Rat) from by decide +kernel) h2
        exact ⟨σ, planeSimilar5f_A7, up_eq, (orc_cmp h2 (orc_cmp h5 (orc_ne h0 (orc_ne h1 (orc_ne h3 (orc_ne h4 orc_nil)))))), planeSimilar5f_p7⟩
    · skip
      by_cases h3 : ∃ s : Rat, RE.eval σ planeSimilar5f_e16 = s * s
      · replace h3 := up_root h3
        by_cases h4 : RE.eval σ (.add (.v 6) (.sub (.v 5) (.v 1))) = RE.eval σ (.add (.v 6) (.sub (.v 5) (.v 3)))
        · have g4 := h4
          replace h4 := cmpR_zero.2 h4
          have h5 := ne_like (likeC (x := (.add (.v 7) (.sub (.v 0) (.v 4)))) (y := (.add (.v 7) (.sub (.v 2) (.v 4)))) (k := (.z 1)) (p := (.v 0)) (q := (.v 2)) (nz := [planeSimilar5f_e5, (.z 2)]) (varsA σ) (nz_cons h1 (nz_cons (two_ne _) nz_nil)) (by kernel_rfl)) (show ((1 : Int) : Rat) ≠ (0 : Rat) from by decide +kernel) h0
          have h6 := ne_like (likeC (x := planeSimilar5f_e21) (y := (.z 0)) (k := (.z 1)) (p := planeSimilar5f_e5) (q := (.z 0)) (nz := [planeSimilar5f_e5, (.z 2)]) (varsA σ) (nz_cons h1 (nz_cons (two_ne _) nz_nil)) (by kernel_rfl)) (show ((1 : Int) : Rat) ≠ (0 : Rat) from by decide +kernel) h1
          have h7 := cmpR_like (likeC (x := planeSimilar5f_e39) (y := (.z 0)) (k := (.z 1)) (p := planeSimilar5f_e16) (q := (.z 0)) (nz := [planeSimilar5f_e5, planeSimilar5f_e21, (.z 2)]) (varsA σ) (nz_cons h1 (nz_cons h6 (nz_cons (two_ne _) nz_nil))) (by kernel_rfl)) (show (0 : Rat) < ((1 : Int) : Rat) from by decide +kernel) h2
          have h8 := sq_like (eqC (x := planeSimilar5f_e39) (y := planeSimilar5f_e16) (nz := [planeSimilar5f_e5, planeSimilar5f_e21, (.z 2)]) (varsA σ) (nz_cons h1 (nz_cons h6 (nz_cons (two_ne _) nz_nil))) (by kernel_rfl)) h3
          have h9 := cmpR_zero.2 (eqC (x := planeSimilar5f_e44) (y := planeSimilar5f_e47) (nz := [planeSimilar5f_e5, planeSimilar5f_e21, (.z 2)]) (varsA σ) (nz_cons h1 (nz_cons h6 (nz_cons (two_ne _) nz_nil))) (by kernel_rfl))
          have h10 := cmpR_zero.2 (eqC (x := planeSimilar5f_e51) (y := planeSimilar5f_e53) (nz := [planeSimilar5f_e5, planeSimilar5f_e21, (.z 2)]) (varsA σ) (nz_cons h1 (nz_cons h6 (nz_cons (two_ne _) nz_nil))) (by kernel_rfl))
          exact ⟨σ, planeSimilar5f_A8, up_eq, (orc_cmp h2 (orc_cmp h4 (orc_cmp h7 (orc_cmp h9 (orc_cmp h10 (orc_root h3 (orc_root h8 (orc_ne h0 (orc_ne h1 (orc_ne h5 (orc_ne h6 orc_nil))))))))))), planeSimilar5f_p8⟩
        · skip
          have h5 := ne_like (likeC (x := planeSimilar5f_e21) (y := (.z 0)) (k := (.z 1)) (p := planeSimilar5f_e5) (q := (.z 0)) (nz := [planeSimilar5f_e5, (.z 2)]) (varsA σ) (nz_cons h1 (nz_cons (two_ne _) nz_nil)) (by kernel_rfl)) (show ((1 : Int) : Rat) ≠ (0 : Rat) from by decide +kernel) h1
          have h6 := cmpR_like (likeC (x := planeSimilar5f_e39) (y := (.z 0)) (k := (.z 1)) (p := planeSimilar5f_e16) (q := (.z 0)) (nz := [planeSimilar5f_e5, planeSimilar5f_e21, (.z 2)]) (varsA σ) (nz_cons h1 (nz_cons h5 (nz_cons (two_ne _) nz_nil))) (by kernel_rfl)) (show (0 : Rat) < ((1 : Int) : Rat) from by decide +kernel) h2
          have h7 := sq_like (eqC (x := planeSimilar5f_e39) (y := planeSimilar5f_e16) (nz := [planeSimilar5f_e5, planeSimilar5f_e21, (.z 2)]) (varsA σ) (nz_cons h1 (nz_cons h5 (nz_cons (two_ne _) nz_nil))) (by kernel_rfl)) h3
          have h8 := cmpR_zero.2 (eqC (x := planeSimilar5f_e44) (y := planeSimilar5f_e47) (nz := [planeSimilar5f_e5, planeSimilar5f_e21, (.z 2)]) (varsA σ) (nz_cons h1 (nz_cons h5 (nz_cons (two_ne _) nz_nil))) (by kernel_rfl))
          have h9 := cmpR_zero.2 (eqC (x := planeSimilar5f_e51) (y := planeSimilar5f_e53) (nz := [planeSimilar5f_e5, planeSimilar5f_e21, (.z 2)]) (varsA σ) (nz_cons h1 (nz_cons h5 (nz_cons (two_ne _) nz_nil))) (by kernel_rfl))
          exact ⟨σ, planeSimilar5f_A9, up_eq, (orc_cmp h2 (orc_cmp h6 (orc_cmp h8 (orc_cmp h9 (orc_root h3 (orc_root h7 (orc_ne h0 (orc_ne h1 (orc_ne h4 (orc_ne h5 orc_nil)))))))))), planeSimilar5f_p9⟩
      · replace h3 := not_ex h3
        by_cases h4 : RE.eval σ (.add (.v 6) (.sub (.v 5) (.v 1))) = RE.eval σ (.add (.v 6) (.sub (.v 5) (.v 3)))
        · have g4 := h4
          replace h4 := cmpR_zero.2 h4
          have h5 := ne_like (likeC (x := (.add (.v 7) (.sub (.v 0) (.v 4)))) (y := (.add (.v 7) (.sub (.v 2) (.v 4)))) (k := (.z 1)) (p := (.v 0)) (q := (.v 2)) (nz := [planeSimilar5f_e5, (.z 2)]) (varsA σ) (nz_cons h1 (nz_cons (two_ne _) nz_nil)) (by kernel_rfl)) (show ((1 : Int) : Rat) ≠ (0 : Rat) from by decide +kernel) h0
          have h6 := ne_like (likeC (x := planeSimilar5f_e21) (y := (.z 0)) (k := (.z 1)) (p := planeSimilar5f_e5) (q := (.z 0)) (nz := [planeSimilar5f_e5, (.z 2)]) (varsA σ) (nz_cons h1 (nz_cons (two_ne _) nz_nil)) (by kernel_rfl)) (show ((1 : Int) : Rat) ≠ (0 : Rat) from by decide +kernel) h1
          have h7 := cmpR_like (likeC (x := planeSimilar5f_e39) (y := (.z 0)) (k := (.z 1)) (p := planeSimilar5f_e16) (q := (.z 0)) (nz := [planeSimilar5f_e5, planeSimilar5f_e21, (.z 2)]) (varsA σ) (nz_cons h1 (nz_cons h6 (nz_cons (two_ne _) nz_nil))) (by kernel_rfl)) (show (0 : Rat) < ((1 : Int) : Rat) from by decide +kernel) h2
          have h8 := nosq_like (eqC (x := planeSimilar5f_e39) (y := planeSimilar5f_e16) (nz := [planeSimilar5f_e5, planeSimilar5f_e21, (.z 2)]) (varsA σ) (nz_cons h1 (nz_cons h6 (nz_cons (two_ne _) nz_nil))) (by kernel_rfl)) h3
          exact ⟨σ, planeSimilar5f_A10, up_eq, (orc_cmp h2 (orc_cmp h4 (orc_cmp h7 (orc_noroot h3 (orc_noroot h8 (orc_ne h0 (orc_ne h1 (orc_ne h5 (orc_ne h6 orc_nil))))))))), planeSimilar5f_p10⟩
        · skip
          have h5 := ne_like (likeC (x := planeSimilar5f_e21) (y := (.z 0)) (k := (.z 1)) (p := planeSimilar5f_e5) (q := (.z 0)) (nz := [planeSimilar5f_e5, (.z 2)]) (varsA σ) (nz_cons h1 (nz_cons (two_ne _) nz_nil)) (by kernel_rfl)) (show ((1 : Int) : Rat) ≠ (0 : Rat) from by decide +kernel) h1
          have h6 := cmpR_like (likeC (x := planeSimilar5f_e39) (y := (.z 0)) (k := (.z 1)) (p := planeSimilar5f_e16) (q := (.z 0)) (nz := [planeSimilar5f_e5, planeSimilar5f_e21, (.z 2)]) (varsA σ) (nz_cons h1 (nz_cons h5 (nz_cons (two_ne _) nz_nil))) (by kernel_rfl)) (show (0 : Rat) < ((1 : Int) : Rat) from by decide +kernel) h2
          have h7 := nosq_like (eqC (x := planeSimilar5f_e39) (y := planeSimilar5f_e16) (nz := [planeSimilar5f_e5, planeSimilar5f_e21, (.z 2)]) (varsA σ) (nz_cons h1 (nz_cons h5 (nz_cons (two_ne _) nz_nil))) (by kernel_rfl)) h3
          exact ⟨σ, planeSimilar5f_A11, up_eq, (orc_cmp h2 (orc_cmp h6 (orc_noroot h3 (orc_noroot h7 (orc_ne h0 (orc_ne h1 (orc_ne h4 (orc_ne h5 orc_nil)))))))), planeSimilar5f_p11⟩
    · skip
      by_cases h3 : ∃ s : Rat, RE.eval σ planeSimilar5f_e16 = s * s
      · replace h3 := up_root h3
        by_cases h4 : RE.eval σ (.add (.v 6) (.sub (.v 5) (.v 1))) = RE.eval σ (.add (.v 6) (.sub (.v 5) (.v 3)))
        · have g4 := h4
          replace h4 := cmpR_zero.2 h4
          have h5 := ne_like (likeC (x := (.add (.v 7) (.sub (.v 0) (.v 4)))) (y := (.add (.v 7) (.sub (.v 2) (.v 4)))) (k := (.z 1)) (p := (.v 0)) (q := (.v 2)) (nz := [planeSimilar5f_e5, planeSimilar5f_e16, (.z 2)]) (varsA σ) (nz_cons h1 (nz_cons (ne_of_cmp h2 rfl) (nz_cons (two_ne _) nz_nil))) (by kernel_rfl)) (show ((1 : Int) : Rat) ≠ (0 : Rat) from by decide +kernel) h0
          have h6 := ne_like (likeC (x := planeSimilar5f_e21) (y := (.z 0)) (k := (.z 1)) (p := planeSimilar5f_e5) (q := (.z 0)) (nz := [planeSimilar5f_e5, planeSimilar5f_e16, (.z 2)]) (varsA σ) (nz_cons h1 (nz_cons (ne_of_cmp h2 rfl) (nz_cons (two_ne _) nz_nil))) (by kernel_rfl)) (show ((1 : Int) : Rat) ≠ (0 : Rat) from by decide +kernel) h1
          have h7 := cmpR_like (likeC (x := planeSimilar5f_e39) (y := (.z 0)) (k := (.z 1)) (p := planeSimilar5f_e16) (q := (.z 0)) (nz := [planeSimilar5f_e5, planeSimilar5f_e16, planeSimilar5f_e21, (.z 2)]) (varsA σ) (nz_cons h1 (nz_cons (ne_of_cmp h2 rfl) (nz_cons h6 (nz_cons (two_ne _) nz_nil)))) (by kernel_rfl)) (show (0 : Rat) < ((1 : Int) : Rat) from by decide +kernel) h2
          have h8 := sq_like (eqC (x := planeSimilar5f_e39) (y := planeSimilar5f_e16) (nz := [planeSimilar5f_e5, planeSimilar5f_e16, planeSimilar5f_e21, planeSimilar5f_e39, (.z 2)]) (varsA σ) (nz_cons h1 (nz_cons (ne_of_cmp h2 rfl) (nz_cons h6 (nz_cons (ne_of_cmp h7 rfl) (nz_cons (two_ne _) nz_nil))))) (by kernel_rfl)) h3
          have h9 := cmpR_zero.2 (eqC (x := planeSimilar5f_e44) (y := planeSimilar5f_e47) (nz := [planeSimilar5f_e5, planeSimilar5f_e16, planeSimilar5f_e21, planeSimilar5f_e39, (.z 2)]) (varsA σ) (nz_cons h1 (nz_cons (ne_of_cmp h2 rfl) (nz_cons h6 (nz_cons (ne_of_cmp h7 rfl) (nz_cons (two_ne _) nz_nil))))) (by kernel_rfl))
          have h10 := cmpR_zero.2 (eqC (x := planeSimilar5f_e51) (y := planeSimilar5f_e53) (nz := [planeSimilar5f_e5, planeSimilar5f_e16, planeSimilar5f_e21, planeSimilar5f_e39, (.z 2)]) (varsA σ) (nz_cons h1 (nz_cons (ne_of_cmp h2 rfl) (nz_cons h6 (nz_cons (ne_of_cmp h7 rfl) (nz_cons (two_ne _) nz_nil))))) (by kernel_rfl))
          exact ⟨σ, planeSimilar5f_A12, up_eq, (orc_cmp h2 (orc_cmp h4 (orc_cmp h7 (orc_cmp h9 (orc_cmp h10 (orc_root h3 (orc_root h8 (orc_ne h0 (orc_ne h1 (orc_ne h5 (orc_ne h6 orc_nil))))))))))), planeSimilar5f_p12⟩
        · skip
          have h5 := ne_like (likeC (x := planeSimilar5f_e21) (y := (.z 0)) (k := (.z 1)) (p := planeSimilar5f_e5) (q := (.z 0)) (nz := [planeSimilar5f_e5, planeSimilar5f_e16, (.z 2)]) (varsA σ) (nz_cons h1 (nz_cons (ne_of_cmp h2 rfl) (nz_cons (two_ne _) nz_nil))) (by kernel_rfl)) (show ((1 : Int) : Rat) ≠ (0 : Rat) from by decide +kernel) h1
          have h6 := cmpR_like (likeC (x := planeSimilar5f_e39) (y := (.z 0)) (k := (.z 1)) (p := planeSimilar5f_e16) (q := (.z 0)) (nz := [planeSimilar5f_e5, planeSimilar5f_e16, planeSimilar5f_e21, (.z 2)]) (varsA σ) (nz_cons h1 (nz_cons (ne_of_cmp h2 rfl) (nz_cons h5 (nz_cons (two_ne _) nz_nil)))) (by kernel_rfl)) (show (0 : Rat) < ((1 : Int) : Rat) from by decide +kernel) h2
          have h7 := sq_like (eqC (x := planeSimilar5f_e39) (y := planeSimilar5f_e16) (nz := [planeSimilar5f_e5, planeSimilar5f_e16, planeSimilar5f_e21, planeSimilar5f_e39, (.z 2)]) (varsA σ) (nz_cons h1 (nz_cons (ne_of_cmp h2 rfl) (nz_cons h5 (nz_cons (ne_of_cmp h6 rfl) (nz_cons (two_ne _) nz_nil))))) (by kernel_rfl)) h3
          have h8 := cmpR_zero.2 (eqC (x := planeSimilar5f_e44) (y := planeSimilar5f_e47) (nz := [planeSimilar5f_e5, planeSimilar5f_e16, planeSimilar5f_e21, planeSimilar5f_e39, (.z 2)]) (varsA σ) (nz_cons h1 (nz_cons (ne_of_cmp h2 rfl) (nz_cons h5 (nz_cons (ne_of_cmp h6 rfl) (nz_cons (two_ne _) nz_nil))))) (by kernel_rfl))
          have h9 := cmpR_zero.2 (eqC (x := planeSimilar5f_e51) (y := planeSimilar5f_e53) (nz := [planeSimilar5f_e5, planeSimilar5f_e16, planeSimilar5f_e21, planeSimilar5f_e39, (.z 2)]) (varsA σ) (nz_cons h1 (nz_cons (ne_of_cmp h2 rfl) (nz_cons h5 (nz_cons (ne_of_cmp h6 rfl) (nz_cons (two_ne _) nz_nil))))) (by kernel_rfl))
          exact ⟨σ, planeSimilar5f_A13, up_eq, (orc_cmp h2 (orc_cmp h6 (orc_cmp h8 (orc_cmp h9 (orc_root h3 (orc_root h7 (orc_ne h0 (orc_ne h1 (orc_ne h4 (orc_ne h5 orc_nil)))))))))), planeSimilar5f_p13⟩
      · replace h3 := not_ex h3
        by_cases h4 : RE.eval σ (.add (.v 6) (.sub (.v 5) (.v 1))) = RE.eval σ (.add (.v 6) (.sub (.v 5) (.v 3)))
        · have g4 := h4
          replace h4 := cmpR_zero.2 h4
          have h5 := ne_like (likeC (x := (.add (.v 7) (.sub (.v 0) (.v 4)))) (y := (.add (.v 7) (.sub (.v 2) (.v 4)))) (k := (.z 1)) (p := (.v 0)) (q := (.v 2)) (nz := [planeSimilar5f_e5, planeSimilar5f_e16, (.z 2)]) (varsA σ) (nz_cons h1 (nz_cons (ne_of_cmp h2 rfl) (nz_cons (two_ne _) nz_nil))) (by kernel_rfl)) (show ((1 : Int) : Rat) ≠ (0 : Rat) from by decide +kernel) h0
          have h6 := ne_like (likeC (x := planeSimilar5f_e21) (y := (.z 0)) (k := (.z 1)) (p := planeSimilar5f_e5) (q := (.z 0)) (nz := [planeSimilar5f_e5, planeSimilar5f_e16, (.z 2)]) (varsA σ) (nz_cons h1 (nz_cons (ne_of_cmp h2 rfl) (nz_cons (two_ne _) nz_nil))) (by kernel_rfl)) (show ((1 : Int) : Rat) ≠ (0 : Rat) from by decide +kernel) h1
          have h7 := cmpR_like (likeC (x := planeSimilar5f_e39) (y := (.z 0)) (k := (.z 1)) (p := planeSimilar5f_e16) (q := (.z 0)) (nz := [planeSimilar5f_e5, planeSimilar5f_e16, planeSimilar5f_e21, (.z 2)]) (varsA σ) (nz_cons h1 (nz_cons (ne_of_cmp h2 rfl) (nz_cons h6 (nz_cons (two_ne _) nz_nil)))) (by kernel_rfl)) (show (0 : Rat) < ((1 : Int) : Rat) from by decide +kernel) h2
          have h8 := nosq_like (eqC (x := planeSimilar5f_e39) (y := planeSimilar5f_e16) (nz := [planeSimilar5f_e5, planeSimilar5f_e16, planeSimilar5f_e21, planeSimilar5f_e39, (.z 2)]) (varsA σ) (nz_cons h1 (nz_cons (ne_of_cmp h2 rfl) (nz_cons h6 (nz_cons (ne_of_cmp h7 rfl) (nz_cons (two_ne _) nz_nil))))) (by kernel_rfl)) h3
          exact ⟨σ, planeSimilar5f_A14, up_eq, (orc_cmp h2 (orc_cmp h4 (orc_cmp h7 (orc_noroot h3 (orc_noroot h8 (orc_ne h0 (orc_ne h1 (orc_ne h5 (orc_ne h6 orc_nil))))))))), planeSimilar5f_p14⟩
        · skip
          have h5 := ne_like (likeC (x := planeSimilar5f_e21) (y := (.z 0)) (k := (.z 1)) (p := planeSimilar5f_e5) (q := (.z 0)) (nz := [planeSimilar5f_e5, planeSimilar5f_e16, (.z 2)]) (varsA σ) (nz_cons h1 (nz_cons (ne_of_cmp h2 rfl) (nz_cons (two_ne _) nz_nil))) (by kernel_rfl)) (show ((1 : Int) : Rat) ≠ (0 : Rat) from by decide +kernel) h1
          have h6 := cmpR_like (likeC (x := planeSimilar5f_e39) (y := (.z 0)) (k := (.z 1)) (p := planeSimilar5f_e16) (q := (.z 0)) (nz := [planeSimilar5f_e5, planeSimilar5f_e16, planeSimilar5f_e21, (.z 2)]) (varsA σ) (nz_cons h1 (nz_cons (ne_of_cmp h2 rfl) (nz_cons h5 (nz_cons (two_ne _) nz_nil)))) (by kernel_rfl)) (show (0 : Rat) < ((1 : Int) : Rat) from by decide +kernel) h2
          have h7 := nosq_like (eqC (x := planeSimilar5f_e39) (y := planeSimilar5f_e16) (nz := [planeSimilar5f_e5, planeSimilar5f_e16, planeSimilar5f_e21, planeSimilar5f_e39, (.z 2)]) (varsA σ) (nz_cons h1 (nz_cons (ne_of_cmp h2 rfl) (nz_cons h5 (nz_cons (ne_of_cmp h6 rfl) (nz_cons (two_ne _) nz_nil))))) (by kernel_rfl)) h3
          exact ⟨σ, planeSimilar5f_A15, up_eq, (orc_cmp h2 (orc_cmp h6 (orc_noroot h3 (orc_noroot h7 (orc_ne h0 (orc_ne h1 (orc_ne h4 (orc_ne h5 orc_nil)))))))), planeSimilar5f_p15⟩

def planeSimilar5t_e0 : RE := .mul (.sub (.v 2) (.v 0)) (.sub (.v 4) (.v 0))
def planeSimilar5t_e1 : RE := .mul (.sub (.v 3) (.v 1)) (.sub (.v 5) (.v 1))
def planeSimilar5t_e2 : RE := .add planeSimilar5t_e0 planeSimilar5t_e1
def planeSimilar5t_e3 : RE := .mul (.sub (.v 2) (.v 0)) (.sub (.v 2) (.v 0))
def planeSimilar5t_e4 : RE := .mul (.sub (.v 3) (.v 1)) (.sub (.v 3) (.v 1))
def planeSimilar5t_e5 : RE := .add planeSimilar5t_e3 planeSimilar5t_e4
def planeSimilar5t_e6 : RE := .div planeSimilar5t_e2 planeSimilar5t_e5
def planeSimilar5t_e7 : RE := .mul planeSimilar5t_e6 planeSimilar5t_e6
def planeSimilar5t_e8 : RE := .mul (.sub (.v 4) (.v 0)) (.sub (.v 4) (.v 0))
def planeSimilar5t_e9 : RE := .mul (.sub (.v 5) (.v 1)) (.sub (.v 5) (.v 1))
def planeSimilar5t_e10 : RE := .add planeSimilar5t_e8 planeSimilar5t_e9
def planeSimilar5t_e11 : RE := .mul (.sub (.v 6) (.v 4)) (.sub (.v 6) (.v 4))
def planeSimilar5t_e12 : RE := .mul (.sub (.v 7) (.v 5)) (.sub (.v 7) (.v 5))
def planeSimilar5t_e13 : RE := .add planeSimilar5t_e11 planeSimilar5t_e12
def planeSimilar5t_e14 : RE := .sub planeSimilar5t_e10 planeSimilar5t_e13
def planeSimilar5t_e15 : RE := .div planeSimilar5t_e14 planeSimilar5t_e5
def planeSimilar5t_e16 : RE := .sub planeSimilar5t_e7 planeSimilar5t_e15
def planeSimilar5t_e17 : RE := .sub (.add (.v 6) (.sub (.v 5) (.v 3))) (.add (.v 6) (.sub (.v 5) (.v 1)))
def planeSimilar5t_e18 : RE := .mul planeSimilar5t_e17 planeSimilar5t_e17
def planeSimilar5t_e19 : RE := .sub (.add (.v 7) (.sub (.v 2) (.v 4))) (.add (.v 7) (.sub (.v 0) (.v 4)))
def planeSimilar5t_e20 : RE := .mul planeSimilar5t_e19 planeSimilar5t_e19
def planeSimilar5t_e21 : RE := .add planeSimilar5t_e18 planeSimilar5t_e20
def planeSimilar5t_e22 : RE := .sub (.add (.v 6) (.sub (.v 5) (.v 5))) (.add (.v 6) (.sub (.v 5) (.v 1)))
def planeSimilar5t_e23 : RE := .mul planeSimilar5t_e17 planeSimilar5t_e22
def planeSimilar5t_e24 : RE := .sub (.add (.v 7) (.sub (.v 4) (.v 4))) (.add (.v 7) (.sub (.v 0) (.v 4)))
def planeSimilar5t_e25 : RE := .mul planeSimilar5t_e19 planeSimilar5t_e24
def planeSimilar5t_e26 : RE := .add planeSimilar5t_e23 planeSimilar5t_e25
def planeSimilar5t_e27 : RE := .div planeSimilar5t_e26 planeSimilar5t_e21
def planeSimilar5t_e28 : RE := .mul planeSimilar5t_e27 planeSimilar5t_e27
def planeSimilar5t_e29 : RE := .mul planeSimilar5t_e22 planeSimilar5t_e22
def planeSimilar5t_e30 : RE := .mul planeSimilar5t_e24 planeSimilar5t_e24
def planeSimilar5t_e31 : RE := .add planeSimilar5t_e29 planeSimilar5t_e30
def planeSimilar5t_e32 : RE := .sub (.add (.v 6) (.sub (.v 5) (.v 7))) (.add (.v 6) (.sub (.v 5) (.v 5)))
def planeSimilar5t_e33 : RE := .mul planeSimilar5t_e32 planeSimilar5t_e32
def planeSimilar5t_e34 : RE := .sub (.add (.v 7) (.sub (.v 6) (.v 4))) (.add (.v 7) (.sub (.v 4) (.v 4)))
def planeSimilar5t_e35 : RE := .mul planeSimilar5t_e34 planeSimilar5t_e34
def planeSimilar5t_e36 : RE := .add planeSimilar5t_e33 planeSimilar5t_e35
def planeSimilar5t_e37 : RE := .sub planeSimilar5t_e31 planeSimilar5t_e36
def planeSimilar5t_e38 : RE := .div planeSimilar5t_e37 planeSimilar5t_e21
def planeSimilar5t_e39 : RE := .sub planeSimilar5t_e28 planeSimilar5t_e38
def planeSimilar5t_e40 : RE := .add (.v 9) planeSimilar5t_e6
def planeSimilar5t_e41 : RE := .mul planeSimilar5t_e40 (.sub (.v 3) (.v 1))
def planeSimilar5t_e42 : RE := .add (.v 1) planeSimilar5t_e41
def planeSimilar5t_e43 : RE := .sub (.v 5) planeSimilar5t_e42
def planeSimilar5t_e44 : RE := .add (.v 6) planeSimilar5t_e43
def planeSimilar5t_e45 : RE := .add (.v 9) planeSimilar5t_e27
def planeSimilar5t_e46 : RE := .mul planeSimilar5t_e45 planeSimilar5t_e17
def planeSimilar5t_e47 : RE := .add (.add (.v 6) (.sub (.v 5) (.v 1))) planeSimilar5t_e46
def planeSimilar5t_e48 : RE := .mul planeSimilar5t_e40 (.sub (.v 2) (.v 0))
def planeSimilar5t_e49 : RE := .add (.v 0) planeSimilar5t_e48
def planeSimilar5t_e50 : RE := .sub planeSimilar5t_e49 (.v 4)
def planeSimilar5t_e51 : RE := .add (.v 7) planeSimilar5t_e50
def planeSimilar5t_e52 : RE := .mul planeSimilar5t_e45 planeSimilar5t_e19
def planeSimilar5t_e53 : RE := .add (.add (.v 7) (.sub (.v 0) (.v 4))) planeSimilar5t_e52
def planeSimilar5t_A0 : Orc := { cmp := [((.v 0), (.v 2), 0), ((.v 1), (.v 3), 0), ((.add (.v 6) (.sub (.v 5) (.v 1))), (.add (.v 6) (.sub (.v 5) (.v 3))), 0), ((.add (.v 7) (.sub (.v 0) (.v 4))), (.add (.v 7) (.sub (.v 2) (.v 4))), 0)] }
theorem planeSimilar5t_p0  : (stepN Tryz.prog (ctrA planeSimilar5t_A0) 20 3 (restN 3 (restN 3 (restN 3 (restN 3 (restN 4 planeSimilar_c))))) (planeSimilar_k4 true).vn 202).map (digest (planeSimilar_k5 true) 241) = some (planeSimilar_k5 true).want := by kernel_rfl
def planeSimilar5t_A1 : Orc := { cmp := [((.v 0), (.v 2), 0), (planeSimilar5t_e16, (.z 0), -1), (planeSimilar5t_e39, (.z 0), -1)], ne := [((.v 1), (.v 3)), (planeSimilar5t_e5, (.z 0)), ((.add (.v 6) (.sub (.v 5) (.v 1))), (.add (.v 6) (.sub (.v 5) (.v 3)))), (planeSimilar5t_e21, (.z 0))] }
theorem planeSimilar5t_p1  : (stepN Tryz.prog (ctrA planeSimilar5t_A1) 20 3 (restN 3 (restN 3 (restN 3 (restN 3 (restN 4 planeSimilar_c))))) (planeSimilar_k4 true).vn 202).map (digest (planeSimilar_k5 true) 241) = some (planeSimilar_k5 true).want := by kernel_rfl
def planeSimilar5t_A2 : Orc := { cmp := [((.v 0), (.v 2), 0), (planeSimilar5t_e16, (.z 0), 0), (planeSimilar5t_e39, (.z 0), 0), (planeSimilar5t_e44, planeSimilar5t_e47, 0), (planeSimilar5t_e51, planeSimilar5t_e53, 0)], sq := [(planeSimilar5t_e16, some (.v 9)), (planeSimilar5t_e39, some (.v 9))], ne := [((.v 1), (.v 3)), (planeSimilar5t_e5, (.z 0)), ((.add (.v 6) (.sub (.v 5) (.v 1))), (.add (.v 6) (.sub (.v 5) (.v 3)))), (planeSimilar5t_e21, (.z 0))] }
theorem planeSimilar5t_p2  : (stepN Tryz.prog (ctrA planeSimilar5t_A2) 20 3 (restN 3 (restN 3 (restN 3 (restN 3 (restN 4 planeSimilar_c))))) (planeSimilar_k4 true).vn 202).map (digest (planeSimilar_k5 true) 241) = some (planeSimilar_k5 true).want := by kernel_rfl
def planeSimilar5t_A3 : Orc := { cmp := [((.v 0), (.v 2), 0), (planeSimilar5t_e16, (.z 0), 0), (planeSimilar5t_e39, (.z 0), 0)], sq := [(planeSimilar5t_e16, none), (planeSimilar5t_e39, none)], ne := [((.v 1), (.v 3)), (planeSimilar5t_e5, (.z 0)), ((.add (.v 6) (.sub (.v 5) (.v 1))), (.add (.v 6) (.sub (.v 5) (.v 3)))), (planeSimilar5t_e21, (.z 0))] }
theorem planeSimilar5t_p3  : (stepN Tryz.prog (ctrA planeSimilar5t_A3) 20 3 (restN 3 (restN 3 (restN 3 (restN 3 (restN 4 planeSimilar_c))))) (planeSimilar_k4 true).vn 202).map (digest (planeSimilar_k5 true) 241) = some (planeSimilar_k5 true).want := by kernel_rfl
def planeSimilar5t_A4 : Orc := { cmp := [((.v 0), (.v 2), 0), (planeSimilar5t_e16, (.z 0), 1), (planeSimilar5t_e39, (.z 0), 1), (planeSimilar5t_e44, planeSimilar5t_e47, 0), (planeSimilar5t_e51, planeSimilar5t_e53, 0)], sq := [(planeSimilar5t_e16, some (.v 9)), (planeSimilar5t_e39, some (.v 9))], ne := [((.v 1), (.v 3)), (planeSimilar5t_e5, (.z 0)), ((.add (.v 6) (.sub (.v 5) (.v 1))), (.add (.v 6) (.sub (.v 5) (.v 3)))), (planeSimilar5t_e21, (.z 0))] }
theorem planeSimilar5t_p4  : (stepN Tryz.prog (ctrA planeSimilar5t_A4) 20 3 (restN 3 (restN 3 (restN 3 (restN 3 (restN 4 planeSimilar_c))))) (planeSimilar_k4 true).vn 202).map (digest (planeSimilar_k5 true) 241) = some (planeSimilar_k5 true).want := by kernel_rfl
def planeSimilar5t_A5 : Orc := { cmp := [((.v 0), (.v 2), 0), (planeSimilar5t_e16, (.z 0), 1), (planeSimilar5t_e39, (.z 0), 1)], sq := [(planeSimilar5t_e16, none), (planeSimilar5t_e39, none)], ne := [((.v 1), (.v 3)), (planeSimilar5t_e5, (.z 0)), ((.add (.v 6) (.sub (.v 5) (.v 1))), (.add (.v 6) (.sub (.v 5) (.v 3)))), (planeSimilar5t_e21, (.z 0))] }
theorem planeSimilar5t_p5  : (stepN Tryz.prog (ctrA planeSimilar5t_A5) 20 3 (restN 3 (restN 3 (restN 3 (restN 3 (restN 4 planeSimilar_c))))) (planeSimilar_k4 true).vn 202).map (digest (planeSimilar_k5 true) 241) = some (planeSimilar_k5 true).want := by kernel_rfl
def planeSimilar5t_A6 : Orc := { cmp := [(planeSimilar5t_e16, (.z 0), -1), ((.add (.v 6) (.sub (.v 5) (.v 1))), (.add (.v 6) (.sub (.v 5) (.v 3))), 0), (planeSimilar5t_e39, (.z 0), -1)], ne := [((.v 0), (.v 2)), (planeSimilar5t_e5, (.z 0)), ((.add (.v 7) (.sub (.v 0) (.v 4))), (.add (.v 7) (.sub (.v 2) (.v 4)))), (planeSimilar5t_e21, (.z 0))] }
theorem planeSimilar5t_p6  : (stepN Tryz.prog (ctrA planeSimilar5t_A6) 20 3 (restN 3 (restN 3 (restN 3 (restN 3 (restN 4 planeSimilar_c))))) (planeSimilar_k4 true).vn 202).map (digest (planeSimilar_k5 true) 241) = some (planeSimilar_k5 true).want := by kernel_rfl
def planeSimilar5t_A7 : Orc := { cmp := [(planeSimilar5t_e16, (.z 0), -1), (planeSimilar5t_e39, (.z 0), -1)], ne := [((.v 0), (.v 2)), (planeSimilar5t_e5, (.z 0)), ((.add (.v 6) (.sub (.v 5) (.v 1))), (.add (.v 6) (.sub (.v 5) (.v 3)))), (planeSimilar5t_e21, (.z 0))] }
theorem planeSimilar5t_p7  : (stepN Tryz.prog (ctrA planeSimilar5t_A7) 20 3 (restN 3 (restN 3 (restN 3 (restN 3 (restN 4 planeSimilar_c))))) (planeSimilar_k4 true).vn 202).map (digest (planeSimilar_k5 true) 241) = some (planeSimilar_k5 true).want := by kernel_rfl
def planeSimilar5t_A8 : Orc := { cmp := [(planeSimilar5t_e16, (.z 0), 0), ((.add (.v 6) (.sub (.v 5) (.v 1))), (.add (.v 6) (.sub (.v 5) (.v 3))), 0), (planeSimilar5t_e39, (.z 0), 0), (planeSimilar5t_e44, planeSimilar5t_e47, 0), (planeSimilar5t_e51, planeSimilar5t_e53, 0)], sq := [(planeSimilar5t_e16, some (.v 9)), (planeSimilar5t_e39, some (.v 9))], ne := [((.v 0), (.v 2)), (planeSimilar5t_e5, (.z 0)), ((.add (.v 7) (.sub (.v 0) (.v 4))), (.add (.v 7) (.sub (.v 2) (.v 4)))), (planeSimilar5t_e21, (.z 0))] }
theorem planeSimilar5t_p8  : (stepN Tryz.prog (ctrA planeSimilar5t_A8) 20 3 (restN 3 (restN 3 (restN 3 (restN 3 (restN 4 planeSimilar_c))))) (planeSimilar_k4 true).vn 202).map (digest (planeSimilar_k5 true) 241) = some (planeSimilar_k5 true).want := by kernel_rfl
def planeSimilar5t_A9 : Orc := { cmp := [(planeSimilar5t_e16, (.z 0), 0), (planeSimilar5t_e39, (.z 0), 0), (planeSimilar5t_e44, planeSimilar5t_e47, 0), (planeSimilar5t_e51, planeSimilar5t_e53, 0)], sq := [(planeSimilar5t_e16, some (.v 9)), (planeSimilar5t_e39, some (.v 9))], ne := [((.v 0), (.v 2)), (planeSimilar5t_e5, (.z 0)), ((.add (.v 6) (.sub (.v 5) (.v 1))), (.add (.v 6) (.sub (.v 5) (.v 3)))), (planeSimilar5t_e21, (.z 0))] }
theorem planeSimilar5t_p9  : (stepN Tryz.prog (ctrA planeSimilar5t_A9) 20 3 (restN 3 (restN 3 (restN 3 (restN 3 (restN 4 planeSimilar_c))))) (planeSimilar_k4 true).vn 202).map (digest (planeSimilar_k5 true) 241) = some (planeSimilar_k5 true).want := by kernel_rfl
def planeSimilar5t_A10 : Orc := { cmp := [(planeSimilar5t_e16, (.z 0), 0), ((.add (.v 6) (.sub (.v 5) (.v 1))), (.add (.v 6) (.sub (.v 5) (.v 3))), 0), (planeSimilar5t_e39, (.z 0), 0)], sq := [(planeSimilar5t_e16, none), (planeSimilar5t_e39, none)], ne := [((.v 0), (.v 2)), (planeSimilar5t_e5, (.z 0)), ((.add (.v 7) (.sub (.v 0) (.v 4))), (.add (.v 7) (.sub (.v 2) (.v 4)))), (planeSimilar5t_e21, (.z 0))] }
theorem planeSimilar5t_p10  : (stepN Tryz.prog (ctrA planeSimilar5t_A10) 20 3 (restN 3 (restN 3 (restN 3 (restN 3 (restN 4 planeSimilar_c))))) (planeSimilar_k4 true).vn 202).map (digest (planeSimilar_k5 true) 241) = some (planeSimilar_k5 true).want := by kernel_rfl
def planeSimilar5t_A11 : Orc := { cmp := [(planeSimilar5t_e16, (.z 0), 0), (planeSimilar5t_e39, (.z 0), 0)], sq := [(planeSimilar5t_e16, none), (planeSimilar5t_e39, none)], ne := [((.v 0), (.v 2)), (planeSimilar5t_e5, (.z 0)), ((.add (.v 6) (.sub (.v 5) (.v 1))), (.add (.v 6) (.sub (.v 5) (.v 3)))), (planeSimilar5t_e21, (.z 0))] }
theorem planeSimilar5t_p11  : (stepN Tryz.prog (ctrA planeSimilar5t_A11) 20 3 (restN 3 (restN 3 (restN 3 (restN 3 (restN 4 planeSimilar_c))))) (planeSimilar_k4 true).vn 202).map (digest (planeSimilar_k5 true) 241) = some (planeSimilar_k5 true).want := by kernel_rfl
def planeSimilar5t_A12 : Orc := { cmp := [(planeSimilar5t_e16, (.z 0), 1), ((.add (.v 6) (.sub (.v 5) (.v 1))), (.add (.v 6) (.sub (.v 5) (.v 3))), 0), (planeSimilar5t_e39, (.z 0), 1), (planeSimilar5t_e44, planeSimilar5t_e47, 0), (planeSimilar5t_e51, planeSimilar5t_e53, 0)], sq := [(planeSimilar5t_e16, some (.v 9)), (planeSimilar5t_e39, some (.v 9))], ne := [((.v 0), (.v 2)), (planeSimilar5t_e5, (.z 0)), ((.add (.v 7) (.sub (.v 0) (.v 4))), (.add (.v 7) (.sub (.v 2) (.v 4)))), (planeSimilar5t_e21, (.z 0))] }
theorem planeSimilar5t_p12  : (stepN Tryz.prog (ctrA planeSimilar5t_A12) 20 3 (restN 3 (restN 3 (restN 3 (restN 3 (restN 4 planeSimilar_c))))) (planeSimilar_k4 true).vn 202).map (digest (planeSimilar_k5 true) 241) = some (planeSimilar_k5 true).want := by kernel_rfl
def planeSimilar5t_A13 : Orc := { cmp := [(planeSimilar5t_e16, (.z 0), 1), (planeSimilar5t_e39, (.z 0), 1), (planeSimilar5t_e44, planeSimilar5t_e47, 0), (planeSimilar5t_e51, planeSimilar5t_e53, 0)], sq := [(planeSimilar5t_e16, some (.v 9)), (planeSimilar5t_e39, some (.v 9))], ne := [((.v 0), (.v 2)), (planeSimilar5t_e5, (.z 0)), ((.add (.v 6) (.sub (.v 5) (.v 1))), (.add (.v 6) (.sub (.v 5) (.v 3)))), (planeSimilar5t_e21, (.z 0))] }
theorem planeSimilar5t_p13  : (stepN Tryz.prog (ctrA planeSimilar5t_A13) 20 3 (restN 3 (restN 3 (restN 3 (restN 3 (restN 4 planeSimilar_c))))) (planeSimilar_k4 true).vn 202).map (digest (planeSimilar_k5 true) 241) = some (planeSimilar_k5 true).want := by kernel_rfl
def planeSimilar5t_A14 : Orc := { cmp := [(planeSimilar5t_e16, (.z 0), 1), ((.add (.v 6) (.sub (.v 5) (.v 1))), (.add (.v 6) (.sub (.v 5) (.v 3))), 0), (planeSimilar5t_e39, (.z 0), 1)], sq := [(planeSimilar5t_e16, none), (planeSimilar5t_e39, none)], ne := [((.v 0), (.v 2)), (planeSimilar5t_e5, (.z 0)), ((.add (.v 7) (.sub (.v 0) (.v 4))), (.add (.v 7) (.sub (.v 2) (.v 4)))), (planeSimilar5t_e21, (.z 0))] }
theorem planeSimilar5t_p14  : (stepN Tryz.prog (ctrA planeSimilar5t_A14) 20 3 (restN 3 (restN 3 (restN 3 (restN 3 (restN 4 planeSimilar_c))))) (planeSimilar_k4 true).vn 202).map (digest (planeSimilar_k5 true) 241) = some (planeSimilar_k5 true).want := by kernel_rfl
def planeSimilar5t_A15 : Orc := { cmp := [(planeSimilar5t_e16, (.z 0), 1), (planeSimilar5t_e39, (.z 0), 1)], sq := [(planeSimilar5t_e16, none), (planeSimilar5t_e39, none)], ne := [((.v 0), (.v 2)), (planeSimilar5t_e5, (.z 0)), ((.add (.v 6) (.sub (.v 5) (.v 1))), (.add (.v 6) (.sub (.v 5) (.v 3)))), (planeSimilar5t_e21, (.z 0))] }
theorem planeSimilar5t_p15  : (stepN Tryz.prog (ctrA planeSimilar5t_A15) 20 3 (restN 3 (restN 3 (restN 3 (restN 3 (restN 4 planeSimilar_c))))) (planeSimilar_k4 true).vn 202).map (digest (planeSimilar_k5 true) 241) = some (planeSimilar_k5 true).want := by kernel_rfl
theorem planeSimilar5t_dec (ρ : Nat → Rat)  : ∃ (ρ' : Nat → Rat) (A : Orc), (∀ k, k < 9 → ρ' k = ρ k) ∧ A.OK ρ' ∧ (stepN Tryz.prog (ctrA A) 20 3 (restN 3 (restN 3 (restN 3 (restN 3 (restN 4 planeSimilar_c))))) (planeSimilar_k4 true).vn 202).map (digest (planeSimilar_k5 true) 241) = some (planeSimilar_k5 true).want := by
  refine ex_up ρ planeSimilar5t_e16 (by kernel_rfl) fun σ up_eq up_root => ?_
  by_cases h0 : RE.eval σ (.v 0) = RE.eval σ (.v 2)
  · have g0 := h0
    replace h0 := cmpR_zero.2 h0
    by_cases h1 : RE.eval σ (.v 1) = RE.eval σ (.v 3)
    · have g1 := h1
      replace h1 := cmpR_zero.2 h1
      have h2 := cmpR_zero.2 (eqC (x := (.add (.v 6) (.sub (.v 5) (.v 1)))) (y := (.add (.v 6) (.sub (.v 5) (.v 3)))) (nz := [(.z 2)]) (varsA_2_3 σ g0.symm g1.symm) (nz_cons (two_ne _) nz_nil) (by kernel_rfl))
      have h3 := cmpR_zero.2 (eqC (x := (.add (.v 7) (.sub (.v 0) (.v 4)))) (y := (.add (.v 7) (.sub (.v 2) (.v 4)))) (nz := [(.z 2)]) (varsA_2_3 σ g0.symm g1.symm) (nz_cons (two_ne _) nz_nil) (by kernel_rfl))
      exact ⟨σ, planeSimilar5t_A0, up_eq, (orc_cmp h0 (orc_cmp h1 (orc_cmp h2 (orc_cmp h3 orc_nil)))), planeSimilar5t_p0⟩
    · skip
      have h2 := normC (b := planeSimilar5t_e5) (x := (.v 1)) (y := (.v 3)) (f := (.sub (.v 2) (.v 0))) (nz := [(.z 2)]) (varsA_2 σ g0.symm) (nz_cons (two_ne _) nz_nil) (by kernel_rfl) h1
      rcases cmpR_bound (RE.eval σ planeSimilar5t_e16) (RE.eval σ (.z 0)) with h3 | h3 | h3
      · skip
        have h4 := ne_like (likeC (x := (.add (.v 6) (.sub (.v 5) (.v 1)))) (y := (.add (.v 6) (.sub (.v 5) (.v 3)))) (k := (.z (-1))) (p := (.v 1)) (q := (.v 3)) (nz := [planeSimilar5t_e5, planeSimilar5t_e16, (.z 2)]) (varsA_2 σ g0.symm) (nz_cons h2 (nz_cons (ne_of_cmp h3 rfl) (nz_cons (two_ne _) nz_nil))) (by kernel_rfl)) (show ((-1 : Int) : Rat) ≠ (0 : Rat) from by decide +kernel) h1
        have h5 := ne_like (likeC (x := planeSimilar5t_e21) (y := (.z 0)) (k := (.z 1)) (p := planeSimilar5t_e5) (q := (.z 0)) (nz := [planeSimilar5t_e5, planeSimilar5t_e16, (.z 2)]) (varsA_2 σ g0.symm) (nz_cons h2 (nz_cons (ne_of_cmp h3 rfl) (nz_cons (two_ne _) nz_nil))) (by kernel_rfl)) (show ((1 : Int) : Rat) ≠ (0 : Rat) from by decide +kernel) h2
        have h6 := cmpR_like (likeC (x := planeSimilar5t_e39) (y := (.z 0)) (k := (.z 1)) (p := planeSimilar5t_e16) (q := (.z 0)) (nz := [planeSimilar5t_e5, planeSimilar5t_e16, planeSimilar5t_e21, (.z 2)]) (varsA_2 σ g0.symm) (nz_cons h2 (nz_cons (ne_of_cmp h3 rfl) (nz_cons h5 (nz_cons (two_ne _) nz_nil)))) (by kernel_rfl)) (show (0 : Rat) < ((1 : Int) : Rat) from by decide +kernel) h3
        exact ⟨σ, planeSimilar5t_A1, up_eq, (orc_cmp h0 (orc_cmp h3 (orc_cmp h6 (orc_ne h1 (orc_ne h2 (orc_ne h4 (orc_ne h5 orc_nil))))))), planeSimilar5t_p1⟩
      · skip
        by_cases h4 : ∃ s : Rat, RE.eval σ planeSimilar5t_e16 = s * s
        · replace h4 := up_root h4
          have h5 := ne_like (likeC (x := (.add (.v 6) (.sub (.v 5) (.v 1)))) (y := (.add (.v 6) (.sub (.v 5) (.v 3)))) (k := (.z (-1))) (p := (.v 1)) (q := (.v 3)) (nz := [planeSimilar5t_e5, (.z 2)]) (varsA_2 σ g0.symm) (nz_cons h2 (nz_cons (two_ne _) nz_nil)) (by kernel_rfl)) (show ((-1 : Int) : Rat) ≠ (0 : Rat) from by decide +kernel) h1
          have h6 := ne_like (likeC (x := planeSimilar5t_e21) (y := (.z 0)) (k := (.z 1)) (p := planeSimilar5t_e5) (q := (.z 0)) (nz := [planeSimilar5t_e5, (.z 2)]) (varsA_2 σ g0.symm) (nz_cons h2 (nz_cons (two_ne _) nz_nil)) (by kernel_rfl)) (show ((1 : Int) : Rat) ≠ (0 : Rat) from by decide +kernel) h2
          have h7 := cmpR_like (likeC (x := planeSimilar5t_e39) (y := (.z 0)) (k := (.z 1)) (p := planeSimilar5t_e16) (q := (.z 0)) (nz := [planeSimilar5t_e5, planeSimilar5t_e21, (.z 2)]) (varsA_2 σ g0.symm) (nz_cons h2 (nz_cons h6 (nz_cons (two_ne _) nz_nil))) (by kernel_rfl)) (show (0 : Rat) < ((1 : Int) : Rat) from by decide +kernel) h3
          have h8 := sq_like (eqC (x := planeSimilar5t_e39) (y := planeSimilar5t_e16) (nz := [planeSimilar5t_e5, planeSimilar5t_e21, (.z 2)]) (varsA_2 σ g0.symm) (nz_cons h2 (nz_cons h6 (nz_cons (two_ne _) nz_nil))) (by kernel_rfl)) h4
          have h9 := cmpR_zero.2 (eqC (x := planeSimilar5t_e44) (y := planeSimilar5t_e47) (nz := [planeSimilar5t_e5, planeSimilar5t_e21, (.z 2)]) (varsA_2 σ g0.symm) (nz_cons h2 (nz_cons h6 (nz_cons (two_ne _) nz_nil))) (by kernel_rfl))
          have h10 := cmpR_zero.2 (eqC (x := planeSimilar5t_e51) (y := planeSimilar5t_e53) (nz := [planeSimilar5t_e5, planeSimilar5t_e21, (.z 2)]) (varsA_2 σ g0.symm) (nz_cons h2 (nz_cons h6 (nz_cons (two_ne _) nz_nil))) (by kernel_rfl))
          exact ⟨σ, planeSimilar5t_A2, up_eq, (orc_cmp h0 (orc_cmp h3 (orc_cmp h7 (orc_cmp h9 (orc_cmp h10 (orc_root h4 (orc_root h8 (orc_ne h1 (orc_ne h2 (orc_ne h5 (orc_ne h6 orc_nil))))))))))), planeSimilar5t_p2⟩
        · replace h4 := not_ex h4
          have h5 := ne_like (likeC (x := (.add (.v 6) (.sub (.v 5) (.v 1)))) (y := (.add (.v 6) (.sub (.v 5) (.v 3)))) (k := (.z (-1))) (p := (.v 1)) (q := (.v 3)) (nz := [planeSimilar5t_e5, (.z 2)]) (varsA_2 σ g0.symm) (nz_cons h2 (nz_cons (two_ne _) nz_nil)) (by kernel_rfl)) (show ((-1 : Int) : Rat) ≠ (0 : Rat) from by decide +kernel) h1
          have h6 := ne_like (likeC (x := planeSimilar5t_e21) (y := (.z 0)) (k := (.z 1)) (p := planeSimilar5t_e5) (q := (.z 0)) (nz := [planeSimilar5t_e5, (.z 2)]) (varsA_2 σ g0.symm) (nz_cons h2 (nz_cons (two_ne _) nz_nil)) (by kernel_rfl)) (show ((1 : Int) : Rat) ≠ (0 : Rat) from by decide +kernel) h2
          have h7 := cmpR_like (likeC (x := planeSimilar5t_e39) (y := (.z 0)) (k := (.z 1)) (p := planeSimilar5t_e16) (q := (.z 0)) (nz := [planeSimilar5t_e5, planeSimilar5t_e21, (.z 2)]) (varsA_2 σ g0.symm) (nz_cons h2 (nz_cons h6 (nz_cons (two_ne _) nz_nil))) (by kernel_rfl)) (show (0 : Rat) < ((1 : Int) : Rat) from by decide +kernel) h3
          have h8 := nosq_like (eqC (x := planeSimilar5t_e39) (y := planeSimilar5t_e16) (nz := [planeSimilar5t_e5, planeSimilar5t_e21, (.z 2)]) (varsA_2 σ g0.symm) (nz_cons h2 (nz_cons h6 (nz_cons (two_ne _) nz_nil))) (by kernel_rfl)) h4
          exact ⟨σ, planeSimilar5t_A3, up_eq, (orc_cmp h0 (orc_cmp h3 (orc_cmp h7 (orc_noroot h4 (orc_noroot h8 (orc_ne h1 (orc_ne h2 (orc_ne h5 (orc_ne h6 orc_nil))))))))), planeSimilar5t_p3⟩
      · skip
        by_cases h4 : ∃ s : Rat, RE.eval σ planeSimilar5t_e16 = s * s
        · replace h4 := up_root h4
          have h5 := ne_like (likeC (x := (.add (.v 6) (.sub (.v 5) (.v 1)))) (y := (.add (.v 6) (.sub (.v 5) (.v 3)))) (k := (.z (-1))) (p := (.v 1)) (q := (.v 3)) (nz := [planeSimilar5t_e5, planeSimilar5t_e16, (.z 2)]) (varsA_2 σ g0.symm) (nz_cons h2 (nz_cons (ne_of_cmp h3 rfl) (nz_cons (two_ne _) nz_nil))) (by kernel_rfl)) (show ((-1 : Int) : Rat) ≠ (0 : Rat) from by decide +kernel) h1
          have h6 := ne_like (likeC (x := planeSimilar5t_e21) (y := (.z 0)) (k := (.z 1)) (p := planeSimilar5t_e5) (q := (.z 0)) (nz := [planeSimilar5t_e5, planeSimilar5t_e16, (.z 2)]) (varsA_2 σ g0.symm) (nz_cons h2 (nz_cons (ne_of_cmp h3 rfl) (nz_cons (two_ne _) nz_nil))) (by kernel_rfl)) (show ((1 : Int) : Rat) ≠ (0 : Rat) from by decide +kernel) h2
          have h7 := cmpR_like (likeC (x := planeSimilar5t_e39) (y := (.z 0)) (k := (.z 1)) (p := planeSimilar5t_e16) (q := (.z 0)) (nz := [planeSimilar5t_e5, planeSimilar5t_e16, planeSimilar5t_e21, (.z 2)]) (varsA_2 σ g0.symm) (nz_cons h2 (nz_cons (ne_of_cmp h3 rfl) (nz_cons h6 (nz_cons (two_ne _) nz_nil)))) (by kernel_rfl)) (show (0 : Rat) < ((1 : Int) : Rat) from by decide +kernel) h3
          have h8 := sq_like (eqC (x := planeSimilar5t_e39) (y := planeSimilar5t_e16) (nz := [planeSimilar5t_e5, planeSimilar5t_e16, planeSimilar5t_e21, planeSimilar5t_e39, (.z 2)]) (varsA_2 σ g0.symm) (nz_cons h2 (nz_cons (ne_of_cmp h3 rfl) (nz_cons h6 (nz_cons (ne_of_cmp h7 rfl) (nz_cons (two_ne _) nz_nil))))) (by kernel_rfl)) h4
          have h9 := cmpR_zero.2 (eqC (x := planeSimilar5t_e44) (y := planeSimilar5t_e47) (nz := [planeSimilar5t_e5, planeSimilar5t_e16, planeSimilar5t_e21, planeSimilar5t_e39, (.z 2)]) (varsA_2 σ g0.symm) (nz_cons h2 (nz_cons (ne_of_cmp h3 rfl) (nz_cons h6 (nz_cons (ne_of_cmp h7 rfl) (nz_cons (two_ne _) nz_nil))))) (by kernel_rfl))
          have h10 := cmpR_zero.2 (eqC (x := planeSimilar5t_e51) (y := planeSimilar5t_e53) (nz := [planeSimilar5t_e5, planeSimilar5t_e16, planeSimilar5t_e21, planeSimilar5t_e39, (.z 2)]) (varsA_2 σ g0.symm) (nz_cons h2 (nz_cons (ne_of_cmp h3 rfl) (nz_cons h6 (nz_cons (ne_of_cmp h7 rfl) (nz_cons (two_ne _) nz_nil))))) (by kernel_rfl))
          exact ⟨σ, planeSimilar5t_A4, up_eq, (orc_cmp h0 (orc_cmp h3 (orc_cmp h7 (orc_cmp h9 (orc_cmp h10 (orc_root h4 (orc_root h8 (orc_ne h1 (orc_ne h2 (orc_ne h5 (orc_ne h6 orc_nil))))))))))), planeSimilar5t_p4⟩
        · replace h4 := not_ex h4
          have h5 := ne_like (likeC (x := (.add (.v 6) (.sub (.v 5) (.v 1)))) (y := (.add (.v 6) (.sub (.v 5) (.v 3)))) (k := (.z (-1))) (p := (.v 1)) (q := (.v 3)) (nz := [planeSimilar5t_e5, planeSimilar5t_e16, (.z 2)]) (varsA_2 σ g0.symm) (nz_cons h2 (nz_cons (ne_of_cmp h3 rfl) (nz_cons (two_ne _) nz_nil))) (by kernel_rfl)) (show ((-1 : Int) : Rat) ≠ (0 : Rat) from by decide +kernel) h1
          have h6 := ne_like (likeC (x := planeSimilar5t_e21) (y := (.z 0)) (k := (.z 1)) (p := planeSimilar5t_e5) (q := (.z 0)) (nz := [planeSimilar5t_e5, planeSimilar5t_e16, (.z 2)]) (varsA_2 σ g0.symm) (nz_cons h2 (nz_cons (ne_of_cmp h3 rfl) (nz_cons (two_ne _) nz_nil))) (by kernel_rfl)) (show ((1 : Int) : Rat) ≠ (0 : Rat) from by decide +kernel) h2
          have h7 := cmpR_like (likeC (x := planeSimilar5t_e39) (y := (.z 0)) (k := (.z 1)) (p := planeSimilar5t_e16) (q := (.z 0)) (nz := [planeSimilar5t_e5, planeSimilar5t_e16, planeSimilar5t_e21, (.z 2)]) (varsA_2 σ g0.symm) (nz_cons h2 (nz_cons (ne_of_cmp h3 rfl) (nz_cons h6 (nz_cons (two_ne _) nz_nil)))) (by kernel_rfl)) (show (0 : Rat) < ((1 : Int) : Rat) from by decide +kernel) h3
          have h8 := nosq_like (eqC (x := planeSimilar5t_e39) (y := planeSimilar5t_e16) (nz := [planeSimilar5t_e5, planeSimilar5t_e16, planeSimilar5t_e21, planeSimilar5t_e39, (.z 2)]) (varsA_2 σ g0.symm) (nz_cons h2 (nz_cons (ne_of_cmp h3 rfl) (nz_cons h6 (nz_cons (ne_of_cmp h7 rfl) (nz_cons (two_ne _) nz_nil))))) (by kernel_rfl)) h4
          exact ⟨σ, planeSimilar5t_A5, up_eq, (orc_cmp h0 (orc_cmp h3 (orc_cmp h7 (orc_noroot h4 (orc_noroot h8 (orc_ne h1 (orc_ne h2 (orc_ne h5 (orc_ne h6 orc_nil))))))))), planeSimilar5t_p5⟩
  · skip
    have h1 := normC (b := planeSimilar5t_e5) (x := (.v 0)) (y := (.v 2)) (f := (.sub (.v 3) (.v 1))) (nz := [(.z 2)]) (varsA σ) (nz_cons (two_ne _) nz_nil) (by kernel_rfl) h0
    rcases cmpR_bound (RE.eval σ planeSimilar5t_e16) (RE.eval σ (.z 0)) with h2 | h2 | h2
    · skip
      by_cases h3 : RE.eval σ (.add (.v 6) (.sub (.v 5) (.v 1))) = RE.eval σ (.add (.v 6) (.sub (.v 5) (.v 3)))
      · have g3 := h3
        replace h3 := cmpR_zero.2 h3
        have h4 := ne_like (likeC (x := (.add (.v 7) (.sub (.v 0) (.v 4)))) (y := (.add (.v 7) (.sub (.v 2) (.v 4)))) (k := (.z 1)) (p := (.v 0)) (q := (.v 2)) (nz := [planeSimilar5t_e5, planeSimilar5t_e16, (.z 2)]) (varsA σ) (nz_cons h1 (nz_cons (ne_of_cmp h2 rfl) (nz_cons (two_ne _) nz_nil))) (by kernel_rfl)) (show ((1 : Int) : Rat) ≠ (0 : Rat) from by decide +kernel) h0
        have h5 := ne_like (likeC (x := planeSimilar5t_e21) (y := (.z 0)) (k := (.z 1)) (p := planeSimilar5t_e5) (q := (.z 0)) (nz := [planeSimilar5t_e5, planeSimilar5t_e16, (.z 2)]) (varsA σ) (nz_cons h1 (nz_cons (ne_of_cmp h2 rfl) (nz_cons (two_ne _) nz_nil))) (by kernel_rfl)) (show ((1 : Int) : Rat) ≠ (0 : Rat) from by decide +kernel) h1
        have h6 := cmpR_like (likeC (x := planeSimilar5t_e39) (y := (.z 0)) (k := (.z 1)) (p := planeSimilar5t_e16) (q := (.z 0)) (nz := [planeSimilar5t_e5, planeSimilar5t_e16, planeSimilar5t_e21, (.z 2)]) (varsA σ) (nz_cons h1 (nz_cons (ne_of_cmp h2 rfl) (nz_cons h5 (nz_cons (two_ne _) nz_nil)))) (by kernel_rfl)) (show (0 : Rat) < ((1 : Int) : Rat) from by decide +kernel) h2
        exact ⟨σ, planeSimilar5t_A6, up_eq, (orc_cmp h2 (orc_cmp h3 (orc_cmp h6 (orc_ne h0 (orc_ne h1 (orc_ne h4 (orc_ne h5 orc_nil))))))), planeSimilar5t_p6⟩
      · skip
        have h4 := ne_like (likeC (x := planeSimilar5t_e21) (y := (.z 0)) (k := (.z 1)) (p := planeSimilar5t_e5) (q := (.z 0)) (nz := [planeSimilar5t_e5, planeSimilar5t_e16, (.z 2)]) (varsA σ) (nz_cons h1 (nz_cons (ne_of_cmp h2 rfl) (nz_cons (two_ne _) nz_nil))) (by kernel_rfl)) (show ((1 : Int) : Rat) ≠ (0 : Rat) from by decide +kernel) h1
        have h5 := cmpR_like (likeC (x := planeSimilar5t_e39) (y := (.z 0)) (k := (.z 1)) (p := planeSimilar5t_e16) (q := (.z 0)) (nz := [planeSimilar5t_e5, planeSimilar5t_e16, planeSimilar5t_e21, (.z 2)]) (varsA σ) (nz_cons h1 (nz_cons (ne_of_cmp h2 rfl) (nz_cons h4 (nz_cons (two_ne _) nz_nil)))) (by kernel_rfl)) (show (0 : Rat) < ((1 : Int) : Rat) from by decide +kernel) h2
        exact ⟨σ, planeSimilar5t_A7, up_eq, (orc_cmp h2 (orc_cmp h5 (orc_ne h0 (orc_ne h1 (orc_ne h3 (orc_ne h4 orc_nil)))))), planeSimilar5t_p7⟩
    · skip
      by_cases h3 : ∃ s : Rat, RE.eval σ planeSimilar5t_e16 = s * s
      · replace h3 := up_root h3
        by_cases h4 : RE.eval σ (.add (.v 6) (.sub (.v 5) (.v 1))) = RE.eval σ (.add (.v 6) (.sub (.v 5) (.v 3)))
        · have g4 := h4
          replace h4 := cmpR_zero.2 h4
          have h5 := ne_like (likeC (x := (.add (.v 7) (.sub (.v 0) (.v 4)))) (y := (.add (.v 7) (.sub (.v 2) (.v 4)))) (k := (.z 1)) (p := (.v 0)) (q := (.v 2)) (nz := [planeSimilar5t_e5, (.z 2)]) (varsA σ) (nz_cons h1 (nz_cons (two_ne _) nz_nil)) (by kernel_rfl)) (show ((1 : Int) : Rat) ≠ (0 : Rat) from by decide +kernel) h0
          have h6 := ne_like (likeC (x := planeSimilar5t_e21) (y := (.z 0)) (k := (.z 1)) (p := planeSimilar5t_e5) (q := (.z 0)) (nz := [planeSimilar5t_e5, (.z 2)]) (varsA σ) (nz_cons h1 (nz_cons (two_ne _) nz_nil)) (by kernel_rfl)) (show ((1 : Int) : Rat) ≠ (0 : Rat) from by decide +kernel) h1
          have h7 := cmpR_like (likeC (x := planeSimilar5t_e39) (y := (.z 0)) (k := (.z 1)) (p := planeSimilar5t_e16) (q := (.z 0)) (nz := [planeSimilar5t_e5, planeSimilar5t_e21, (.z 2)]) (varsA σ) (nz_cons h1 (nz_cons h6 (nz_cons (two_ne _) nz_nil))) (by kernel_rfl)) (show (0 : Rat) < ((1 : Int) : Rat) from by decide +kernel) h2
          have h8 := sq_like (eqC (x := planeSimilar5t_e39) (y := planeSimilar5t_e16) (nz := [planeSimilar5t_e5, planeSimilar5t_e21, (.z 2)]) (varsA σ) (nz_cons h1 (nz_cons h6 (nz_cons (two_ne _) nz_nil))) (by kernel_rfl)) h3
          have h9 := cmpR_zero.2 (eqC (x := planeSimilar5t_e44) (y := planeSimilar5t_e47) (nz := [planeSimilar5t_e5, planeSimilar5t_e21, (.z 2)]) (varsA σ) (nz_cons h1 (nz_cons h6 (nz_cons (two_ne _) nz_nil))) (by kernel_rfl))
          have h10 := cmpR_zero.2 (eqC (x := planeSimilar5t_e51) (y := planeSimilar5t_e53) (nz := [planeSimilar5t_e5, planeSimilar5t_e21, (.z 2)]) (varsA σ) (nz_cons h1 (nz_cons h6 (nz_cons (two_ne _) nz_nil))) (by kernel_rfl))
          exact ⟨σ, planeSimilar5t_A8, up_eq, (orc_cmp h2 (orc_cmp h4 (orc_cmp h7 (orc_cmp h9 (orc_cmp h10 (orc_root h3 (orc_root h8 (orc_ne h0 (orc_ne h1 (orc_ne h5 (orc_ne h6 orc_nil))))))))))), planeSimilar5t_p8⟩
        · skip
          have h5 := ne_like (likeC (x := planeSimilar5t_e21) (y := (.z 0)) (k := (.z 1)) (p := planeSimilar5t_e5) (q := (.z 0)) (nz := [planeSimilar5t_e5, (.z 2)]) (varsA σ) (nz_cons h1 (nz_cons (two_ne _) nz_nil)) (by kernel_rfl)) (show ((1 : Int) : Rat) ≠ (0 : Rat) from by decide +kernel) h1
          have h6 := cmpR_like (likeC (x := planeSimilar5t_e39) (y := (.z 0)) (k := (.z 1)) (p := planeSimilar5t_e16) (q := (.z 0)) (nz := [planeSimilar5t_e5, planeSimilar5t_e21, (.z 2)]) (varsA σ) (nz_cons h1 (nz_cons h5 (nz_cons (two_ne _) nz_nil))) (by kernel_rfl)) (show (0 : Rat) < ((1 : Int) : Rat) from by decide +kernel) h2
          have h7 := sq_like (eqC (x := planeSimilar5t_e39) (y := planeSimilar5t_e16) (nz := [planeSimilar5t_e5, planeSimilar5t_e21, (.z 2)]) (varsA σ) (nz_cons h1 (nz_cons h5 (nz_cons (two_ne _) nz_nil))) (by kernel_rfl)) h3
          have h8 := cmpR_zero.2 (eqC (x := planeSimilar5t_e44) (y := planeSimilar5t_e47) (nz := [planeSimilar5t_e5, planeSimilar5t_e21, (.z 2)]) (varsA σ) (nz_cons h1 (nz_cons h5 (nz_cons (two_ne _) nz_nil))) (by kernel_rfl))
          have h9 := cmpR_zero.2 (eqC (x := planeSimilar5t_e51) (y := planeSimilar5t_e53) (nz := [planeSimilar5t_e5, planeSimilar5t_e21, (.z 2)]) (varsA σ) (nz_cons h1 (nz_cons h5 (nz_cons (two_ne _) nz_nil))) (by kernel_rfl))
          exact ⟨σ, planeSimilar5t_A9, up_eq, (orc_cmp h2 (orc_cmp h6 (orc_cmp h8 (orc_cmp h9 (orc_root h3 (orc_root h7 (orc_ne h0 (orc_ne h1 (orc_ne h4 (orc_ne h5 orc_nil)))))))))), planeSimilar5t_p9⟩
      · replace h3 := not_ex h3
        by_cases h4 : RE.eval σ (.add (.v 6) (.sub (.v 5) (.v 1))) = RE.eval σ (.add (.v 6) (.sub (.v 5) (.v 3)))
        · have g4 := h4
          replace h4 := cmpR_zero.2 h4
          have h5 := ne_like (likeC (x := (.add (.v 7) (.sub (.v 0) (.v 4)))) (y := (.add (.v 7) (.sub (.v 2) (.v 4)))) (k := (.z 1)) (p := (.v 0)) (q := (.v 2)) (nz := [planeSimilar5t_e5, (.z 2)]) (varsA σ) (nz_cons h1 (nz_cons (two_ne _) nz_nil)) (by kernel_rfl)) (show ((1 : Int) : Rat) ≠ (0 : Rat) from by decide +kernel) h0
          have h6 := ne_like (likeC (x := planeSimilar5t_e21) (y := (.z 0)) (k := (.z 1)) (p := planeSimilar5t_e5) (q := (.z 0)) (nz := [planeSimilar5t_e5, (.z 2)]) (varsA σ) (nz_cons h1 (nz_cons (two_ne _) nz_nil)) (by kernel_rfl)) (show ((1 : Int) : Rat) ≠ (0 : Rat) from by decide +kernel) h1
          have h7 := cmpR_like (likeC (x := planeSimilar5t_e39) (y := (.z 0)) (k := (.z 1)) (p := planeSimilar5t_e16) (q := (.z 0)) (nz := [planeSimilar5t_e5, planeSimilar5t_e21, (.z 2)]) (varsA σ) (nz_cons h1 (nz_cons h6 (nz_cons (two_ne _) nz_nil))) (by kernel_rfl)) (show (0 : Rat) < ((1 : Int) : Rat) from by decide +kernel) h2
          have h8 := nosq_like (eqC (x := planeSimilar5t_e39) (y := planeSimilar5t_e16) (nz := [planeSimilar5t_e5, planeSimilar5t_e21, (.z 2)]) (varsA σ) (nz_cons h1 (nz_cons h6 (nz_cons (two_ne _) nz_nil))) (by kernel_rfl)) h3
          exact ⟨σ, planeSimilar5t_A10, up_eq, (orc_cmp h2 (orc_cmp h4 (orc_cmp h7 (orc_noroot h3 (orc_noroot h8 (orc_ne h0 (orc_ne h1 (orc_ne h5 (orc_ne h6 orc_nil))))))))), planeSimilar5t_p10⟩
        · skip
          have h5 := ne_like (likeC (x := planeSimilar5t_e21) (y := (.z 0)) (k := (.z 1)) (p := planeSimilar5t_e5) (q := (.z 0)) (nz := [planeSimilar5t_e5, (.z 2)]) (varsA σ) (nz_cons h1 (nz_cons (two_ne _) nz_nil)) (by kernel_rfl)) (show ((1 : Int) : Rat) ≠ (0 : Rat) from by decide +kernel) h1
          have h6 := cmpR_like (likeC (x := planeSimilar5t_e39) (y := (.z 0)) (k := (.z 1)) (p := planeSimilar5t_e16) (q := (.z 0)) (nz := [planeSimilar5t_e5, planeSimilar5t_e21, (.z 2)]) (varsA σ) (nz_cons h1 (nz_cons h5 (nz_cons (two_ne _) nz_nil))) (by kernel_rfl)) (show (0 : Rat) < ((1 : Int) : Rat) from by decide +kernel) h2
          have h7 := nosq_like (eqC (x := planeSimilar5t_e39) (y := planeSimilar5t_e16) (nz := [planeSimilar5t_e5, planeSimilar5t_e21, (.z 2)]) (varsA σ) (nz_cons h1 (nz_cons h5 (nz_cons (two_ne _) nz_nil))) (by kernel_rfl)) h3
          exact ⟨σ, planeSimilar5t_A11, up_eq, (orc_cmp h2 (orc_cmp h6 (orc_noroot h3 (orc_noroot h7 (orc_ne h0 (orc_ne h1 (orc_ne h4 (orc_ne h5 orc_nil)))))))), planeSimilar5t_p11⟩
    · skip
      by_cases h3 : ∃ s : Rat, RE.eval σ planeSimilar5t_e16 = s * s
      · replace h3 := up_root h3
        by_cases h4 : RE.eval σ (.add (.v 6) (.sub (.v 5) (.v 1))) = RE.eval σ (.add (.v 6) (.sub (.v 5) (.v 3)))
        · have g4 := h4
          replace h4 := cmpR_zero.2 h4
          have h5 := ne_like (likeC (x := (.add (.v 7) (.sub (.v 0) (.v 4)))) (y := (.add (.v 7) (.sub (.v 2) (.v 4)))) (k := (.z 1)) (p := (.v 0)) (q := (.v 2)) (nz := [planeSimilar5t_e5, planeSimilar5t_e16, (.z 2)]) (varsA σ) (nz_cons h1 (nz_cons (ne_of_cmp h2 rfl) (nz_cons (two_ne _) nz_nil))) (by kernel_rfl)) (show ((1 : Int) : Rat) ≠ (0 : Rat) from by decide +kernel) h0
          have h6 := ne_like (likeC (x := planeSimilar5t_e21) (y := (.z 0)) (k := (.z 1)) (p := planeSimilar5t_e5) (q := (.z 0)) (nz := [planeSimilar5t_e5, planeSimilar5t_e16, (.z 2)]) (varsA σ) (nz_cons h1 (nz_cons (ne_of_cmp h2 rfl) (nz_cons (two_ne _) nz_nil))) (by kernel_rfl)) (show ((1 : Int) : Rat) ≠ (0 : Rat) from by decide +kernel) h1
          have h7 := cmpR_like (likeC (x := planeSimilar5t_e39) (y := (.z 0)) (k := (.z 1)) (p := planeSimilar5t_e16) (q := (.z 0)) (nz := [planeSimilar5t_e5, planeSimilar5t_e16, planeSimilar5t_e21, (.z 2)]) (varsA σ) (nz_cons h1 (nz_cons (ne_of_cmp h2 rfl) (nz_cons h6 (nz_cons (two_ne _) nz_nil)))) (by kernel_rfl)) (show (0 : Rat) < ((1 : Int) : Rat) from by decide +kernel) h2
          have h8 := sq_like (eqC (x := planeSimilar5t_e39) (y := planeSimilar5t_e16) (nz := [planeSimilar5t_e5, planeSimilar5t_e16, planeSimilar5t_e21, planeSimilar5t_e39, (.z 2)]) (varsA σ) (nz_cons h1 (nz_cons (ne_of_cmp h2 rfl) (nz_cons h6 (nz_cons (ne_of_cmp h7 rfl) (nz_cons (two_ne _) nz_nil))))) (by kernel_rfl)) h3
          have h9 := cmpR_zero.2 (eqC (x := planeSimilar5t_e44) (y := planeSimilar5t_e47) (nz := [planeSimilar5t_e5, planeSimilar5t_e16, planeSimilar5t_e21, planeSimilar5t_e39, (.z 2)]) (varsA σ) (nz_cons h1 (nz_cons (ne_of_cmp h2 rfl) (nz_cons h6 (nz_cons (ne_of_cmp h7 rfl) (nz_cons (two_ne _) nz_nil))))) (by kernel_rfl))
          have h10 := cmpR_zero.2 (eqC (x := planeSimilar5t_e51) (y := planeSimilar5t_e53) (nz := [planeSimilar5t_e5, planeSimilar5t_e16, planeSimilar5t_e21, planeSimilar5t_e39, (.z 2)]) (varsA σ) (nz_cons h1 (nz_cons (ne_of_cmp h2 rfl) (nz_cons h6 (nz_cons (ne_of_cmp h7 rfl) (nz_cons (two_ne _) nz_nil))))) (by kernel_rfl))
          exact ⟨σ, planeSimilar5t_A12, up_eq, (orc_cmp h2 (orc_cmp h4 (orc_cmp h7 (orc_cmp h9 (orc_cmp h10 (orc_root h3 (orc_root h8 (orc_ne h0 (orc_ne h1 (orc_ne h5 (orc_ne h6 orc_nil))))))))))), planeSimilar5t_p12⟩
        · skip
          have h5 := ne_like (likeC (x := planeSimilar5t_e21) (y := (.z 0)) (k := (.z 1)) (p := planeSimilar5t_e5) (q := (.z 0)) (nz := [planeSimilar5t_e5, planeSimilar5t_e16, (.z 2)]) (varsA σ) (nz_cons h1 (nz_cons (ne_of_cmp h2 rfl) (nz_cons (two_ne _) nz_nil))) (by kernel_rfl)) (show ((1 : Int) : Rat) ≠ (0 : Rat) from by decide +kernel) h1
          have h6 := cmpR_like (likeC (x := planeSimilar5t_e39) (y := (.z 0)) (k := (.z 1)) (p := planeSimilar5t_e16) (q := (.z 0)) (nz := [planeSimilar5t_e5, planeSimilar5t_e16, planeSimilar5t_e21, (.z 2)]) (varsA σ) (nz_cons h1 (nz_cons (ne_of_cmp h2 rfl) (nz_cons h5 (nz_cons (two_ne _) nz_nil)))) (by kernel_rfl)) (show (0 : Rat) < ((1 : Int) : Rat) from by decide +kernel) h2
          have h7 := sq_like (eqC (x := planeSimilar5t_e39) (y := planeSimilar5t_e16) (nz := [planeSimilar5t_e5, planeSimilar5t_e16, planeSimilar5t_e21, planeSimilar5t_e39, (.z 2)]) (varsA σ) (nz_cons h1 (nz_cons (ne_of_cmp h2 rfl) (nz_cons h5 (nz_cons (ne_of_cmp h6 rfl) (nz_cons (two_ne _) nz_nil))))) (by kernel_rfl)) h3
          have h8 := cmpR_zero.2 (eqC (x := planeSimilar5t_e44) (y := planeSimilar5t_e47) (nz := [planeSimilar5t_e5, planeSimilar5t_e16, planeSimilar5t_e21, planeSimilar5t_e39, (.z 2)]) (varsA σ) (nz_cons h1 (nz_cons (ne_of_cmp h2 rfl) (nz_cons h5 (nz_cons (ne_of_cmp h6 rfl) (nz_cons (two_ne _) nz_nil))))) (by kernel_rfl))
          have h9 := cmpR_zero.2 (eqC (x := planeSimilar5t_e51) (y := planeSimilar5t_e53) (nz := [planeSimilar5t_e5, planeSimilar5t_e16, planeSimilar5t_e21, planeSimilar5t_e39, (.z 2)]) (varsA σ) (nz_cons h1 (nz_cons (ne_of_cmp h2 rfl) (nz_cons h5 (nz_cons (ne_of_cmp h6 rfl) (nz_cons (two_ne _) nz_nil))))) (by kernel_rfl))
          exact ⟨σ, planeSimilar5t_A13, up_eq, (orc_cmp h2 (orc_cmp h6 (orc_cmp h8 (orc_cmp h9 (orc_root h3 (orc_root h7 (orc_ne h0 (orc_ne h1 (orc_ne h4 (orc_ne h5 orc_nil)))))))))), planeSimilar5t_p13⟩
      · replace h3 := not_ex h3
        by_cases h4 : RE.eval σ (.add (.v 6) (.sub (.v 5) (.v 1))) = RE.eval σ (.add (.v 6) (.sub (.v 5) (.v 3)))
        · have g4 := h4
          replace h4 := cmpR_zero.2 h4
          have h5 := ne_like (likeC (x := (.add (.v 7) (.sub (.v 0) (.v 4)))) (y := (.add (.v 7) (.sub (.v 2) (.v 4)))) (k := (.z 1)) (p := (.v 0)) (q := (.v 2)) (nz := [planeSimilar5t_e5, planeSimilar5t_e16, (.z 2)]) (varsA σ) (nz_cons h1 (nz_cons (ne_of_cmp h2 rfl) (nz_cons (two_ne _) nz_nil))) (by kernel_rfl)) (show ((1 : Int) : Rat) ≠ (0 : Rat) from by decide +kernel) h0
          have h6 := ne_like (likeC (x := planeSimilar5t_e21) (y := (.z 0)) (k := (.z 1)) (p := planeSimilar5t_e5) (q := (.z 0)) (nz := [planeSimilar5t_e5, planeSimilar5t_e16, (.z 2)]) (varsA σ) (nz_cons h1 (nz_cons (ne_of_cmp h2 rfl) (nz_cons (two_ne _) nz_nil))) (by kernel_rfl)) (show ((1 : Int) : Rat) ≠ (0 : Rat) from by decide +kernel) h1
          have h7 := cmpR_like (likeC (x := planeSimilar5t_e39) (y := (.z 0)) (k := (.z 1)) (p := planeSimilar5t_e16) (q := (.z 0)) (nz := [planeSimilar5t_e5, planeSimilar5t_e16, planeSimilar5t_e21, (.z 2)]) (varsA σ) (nz_cons h1 (nz_cons (ne_of_cmp h2 rfl) (nz_cons h6 (nz_cons (two_ne _) nz_nil)))) (by kernel_rfl)) (show (0 : Rat) < ((1 : Int) : Rat) from by decide +kernel) h2
          have h8 := nosq_like (eqC (x := planeSimilar5t_e39) (y := planeSimilar5t_e16) (nz := [planeSimilar5t_e5, planeSimilar5t_e16, planeSimilar5t_e21, planeSimilar5t_e39, (.z 2)]) (varsA σ) (nz_cons h1 (nz_cons (ne_of_cmp h2 rfl) (nz_cons h6 (nz_cons (ne_of_cmp h7 rfl) (nz_cons (two_ne _) nz_nil))))) (by kernel_rfl)) h3
          exact ⟨σ, planeSimilar5t_A14, up_eq, (orc_cmp h2 (orc_cmp h4 (orc_cmp h7 (orc_noroot h3 (orc_noroot h8 (orc_ne h0 (orc_ne h1 (orc_ne h5 (orc_ne h6 orc_nil))))))))), planeSimilar5t_p14⟩
        · skip
          have h5 := ne_like (likeC (x := planeSimilar5t_e21) (y := (.z 0)) (k := (.z 1)) (p := planeSimilar5t_e5) (q := (.z 0)) (nz := [planeSimilar5t_e5, planeSimilar5t_e16, (.z 2)]) (varsA σ) (nz_cons h1 (nz_cons (ne_of_cmp h2 rfl) (nz_cons (two_ne _) nz_nil))) (by kernel_rfl)) (show ((1 : Int) : Rat) ≠ (0 : Rat) from by decide +kernel) h1
          have h6 := cmpR_like (likeC (x := planeSimilar5t_e39) (y := (.z 0)) (k := (.z 1)) (p := planeSimilar5t_e16) (q := (.z 0)) (nz := [planeSimilar5t_e5, planeSimilar5t_e16, planeSimilar5t_e21, (.z 2)]) (varsA σ) (nz_cons h1 (nz_cons (ne_of_cmp h2 rfl) (nz_cons h5 (nz_cons (two_ne _) nz_nil)))) (by kernel_rfl)) (show (0 : Rat) < ((1 : Int) : Rat) from by decide +kernel) h2
          have h7 := nosq_like (eqC (x := planeSimilar5t_e39) (y := planeSimilar5t_e16) (nz := [planeSimilar5t_e5, planeSimilar5t_e16, planeSimilar5t_e21, planeSimilar5t_e39, (.z 2)]) (varsA σ) (nz_cons h1 (nz_cons (ne_of_cmp h2 rfl) (nz_cons h5 (nz_cons (ne_of_cmp h6 rfl) (nz_cons (two_ne _) nz_nil))))) (by kernel_rfl)) h3
          exact ⟨σ, planeSimilar5t_A15, up_eq, (orc_cmp h2 (orc_cmp h6 (orc_noroot h3 (orc_noroot h7 (orc_ne h0 (orc_ne h1 (orc_ne h4 (orc_ne h5 orc_nil)))))))), planeSimilar5t_p15⟩

theorem planeSimilar_q5 (fl : Bool) : PieceOK (restN 3 (restN 3 (restN 3 (restN 3 (restN 4 planeSimilar_c))))) (planeSimilar_k4 fl).vn 202 3 (planeSimilar_k5 fl) 241 := by
  intro ρ
  cases fl
  · exact planeSimilar5f_dec ρ
  · exact planeSimilar5t_dec ρ
def planeSimilar6f_e0 : RE := .mul (.sub (.v 2) (.v 0)) (.sub (.v 2) (.v 0))
def planeSimilar6f_e1 : RE := .mul (.sub (.v 3) (.v 1)) (.sub (.v 3) (.v 1))
def planeSimilar6f_e2 : RE := .add planeSimilar6f_e0 planeSimilar6f_e1
def planeSimilar6f_e3 : RE := .mul (.sub (.v 4) (.v 0)) (.sub (.v 4) (.v 0))
def planeSimilar6f_e4 : RE := .mul (.sub (.v 5) (.v 1)) (.sub (.v 5) (.v 1))
def planeSimilar6f_e5 : RE := .add planeSimilar6f_e3 planeSimilar6f_e4
def planeSimilar6f_e6 : RE := .div planeSimilar6f_e2 planeSimilar6f_e5
def planeSimilar6f_e7 : RE := .add planeSimilar6f_e2 planeSimilar6f_e5
def planeSimilar6f_e8 : RE := .mul (.sub (.v 6) (.v 4)) (.sub (.v 6) (.v 4))
def planeSimilar6f_e9 : RE := .mul (.sub (.v 7) (.v 5)) (.sub (.v 7) (.v 5))
def planeSimilar6f_e10 : RE := .add planeSimilar6f_e8 planeSimilar6f_e9
def planeSimilar6f_e11 : RE := .sub planeSimilar6f_e7 planeSimilar6f_e10
def planeSimilar6f_e12 : RE := .mul (.z 2) planeSimilar6f_e5
def planeSimilar6f_e13 : RE := .div planeSimilar6f_e11 planeSimilar6f_e12
def planeSimilar6f_e14 : RE := .mul planeSimilar6f_e13 planeSimilar6f_e13
def planeSimilar6f_e15 : RE := .sub planeSimilar6f_e6 planeSimilar6f_e14
def planeSimilar6f_e16 : RE := .sub (.add (.v 6) (.sub (.v 5) (.v 5))) (.add (.v 6) (.sub (.v 5) (.v 1)))
def planeSimilar6f_e17 : RE := .mul planeSimilar6f_e16 planeSimilar6f_e16
def planeSimilar6f_e18 : RE := .sub (.add (.v 7) (.sub (.v 4) (.v 4))) (.add (.v 7) (.sub (.v 0) (.v 4)))
def planeSimilar6f_e19 : RE := .mul planeSimilar6f_e18 planeSimilar6f_e18
def planeSimilar6f_e20 : RE := .add planeSimilar6f_e17 planeSimilar6f_e19
def planeSimilar6f_e21 : RE := .mul (.z 2) planeSimilar6f_e20
def planeSimilar6f_e22 : RE := .sub (.add (.v 6) (.sub (.v 5) (.v 3))) (.add (.v 6) (.sub (.v 5) (.v 1)))
def planeSimilar6f_e23 : RE := .mul planeSimilar6f_e22 planeSimilar6f_e22
def planeSimilar6f_e24 : RE := .sub (.add (.v 7) (.sub (.v 2) (.v 4))) (.add (.v 7) (.sub (.v 0) (.v 4)))
def planeSimilar6f_e25 : RE := .mul planeSimilar6f_e24 planeSimilar6f_e24
def planeSimilar6f_e26 : RE := .add planeSimilar6f_e23 planeSimilar6f_e25
def planeSimilar6f_e27 : RE := .div planeSimilar6f_e26 planeSimilar6f_e20
def planeSimilar6f_e28 : RE := .add planeSimilar6f_e26 planeSimilar6f_e20
def planeSimilar6f_e29 : RE := .sub (.add (.v 6) (.sub (.v 5) (.v 7))) (.add (.v 6) (.sub (.v 5) (.v 5)))
def planeSimilar6f_e30 : RE := .mul planeSimilar6f_e29 planeSimilar6f_e29
def planeSimilar6f_e31 : RE := .sub (.add (.v 7) (.sub (.v 6) (.v 4))) (.add (.v 7) (.sub (.v 4) (.v 4)))
def planeSimilar6f_e32 : RE := .mul planeSimilar6f_e31 planeSimilar6f_e31
def planeSimilar6f_e33 : RE := .add planeSimilar6f_e30 planeSimilar6f_e32
def planeSimilar6f_e34 : RE := .sub planeSimilar6f_e28 planeSimilar6f_e33
def planeSimilar6f_e35 : RE := .div planeSimilar6f_e34 planeSimilar6f_e21
def planeSimilar6f_e36 : RE := .mul planeSimilar6f_e35 planeSimilar6f_e35
def planeSimilar6f_e37 : RE := .sub planeSimilar6f_e27 planeSimilar6f_e36
def planeSimilar6f_e38 : RE := .mul (.sub (.v 5) (.v 1)) planeSimilar6f_e13
def planeSimilar6f_e39 : RE := .add (.v 1) planeSimilar6f_e38
def planeSimilar6f_e40 : RE := .mul (.sub (.v 4) (.v 0)) (.neg (.v 9))
def planeSimilar6f_e41 : RE := .add planeSimilar6f_e39 planeSimilar6f_e40
def planeSimilar6f_e42 : RE := .sub (.v 5) planeSimilar6f_e41
def planeSimilar6f_e43 : RE := .add (.v 6) planeSimilar6f_e42
def planeSimilar6f_e44 : RE := .mul planeSimilar6f_e16 planeSimilar6f_e35
def planeSimilar6f_e45 : RE := .add (.add (.v 6) (.sub (.v 5) (.v 1))) planeSimilar6f_e44
def planeSimilar6f_e46 : RE := .sub (.add (.v 7) (.sub (.v 0) (.v 4))) (.add (.v 7) (.sub (.v 4) (.v 4)))
def planeSimilar6f_e47 : RE := .mul planeSimilar6f_e46 (.neg (.v 9))
def planeSimilar6f_e48 : RE := .add planeSimilar6f_e45 planeSimilar6f_e47
def planeSimilar6f_e49 : RE := .mul (.sub (.v 4) (.v 0)) planeSimilar6f_e13
def planeSimilar6f_e50 : RE := .add (.v 0) planeSimilar6f_e49
def planeSimilar6f_e51 : RE := .mul (.sub (.v 1) (.v 5)) (.neg (.v 9))
def planeSimilar6f_e52 : RE := .add planeSimilar6f_e50 planeSimilar6f_e51
def planeSimilar6f_e53 : RE := .sub planeSimilar6f_e52 (.v 4)
def planeSimilar6f_e54 : RE := .add (.v 7) planeSimilar6f_e53
def planeSimilar6f_e55 : RE := .mul planeSimilar6f_e18 planeSimilar6f_e35
def planeSimilar6f_e56 : RE := .add (.add (.v 7) (.sub (.v 0) (.v 4))) planeSimilar6f_e55
def planeSimilar6f_e57 : RE := .mul planeSimilar6f_e16 (.neg (.v 9))
def planeSimilar6f_e58 : RE := .add planeSimilar6f_e56 planeSimilar6f_e57
def planeSimilar6f_A0 : Orc := { cmp := [((.v 0), (.v 4), 0), ((.v 1), (.v 5), 0), ((.add (.v 6) (.sub (.v 5) (.v 1))), (.add (.v 6) (.sub (.v 5) (.v 5))), 0), ((.add (.v 7) (.sub (.v 0) (.v 4))), (.add (.v 7) (.sub (.v 4) (.v 4))), 0)] }
theorem planeSimilar6f_p0  : (acode Tryz.prog (ctrA planeSimilar6f_A0) 20 (restN 3 (restN 3 (restN 3 (restN 3 (restN 3 (restN 4 planeSimilar_c)))))) (planeSimilar_k5 false).vn 241).map (fin Tryz.f10) = yesF := by kernel_rfl
def planeSimilar6f_A1 : Orc := { cmp := [((.v 0), (.v 4), 0), (planeSimilar6f_e15, (.z 0), -1), (planeSimilar6f_e37, (.z 0), -1)], ne := [((.v 1), (.v 5)), (planeSimilar6f_e5, (.z 0)), (planeSimilar6f_e12, (.z 0)), ((.add (.v 6) (.sub (.v 5) (.v 1))), (.add (.v 6) (.sub (.v 5) (.v 5)))), (planeSimilar6f_e21, (.z 0)), (planeSimilar6f_e20, (.z 0))] }
theorem planeSimilar6f_p1  : (acode Tryz.prog (ctrA planeSimilar6f_A1) 20 (restN 3 (restN 3 (restN 3 (restN 3 (restN 3 (restN 4 planeSimilar_c)))))) (planeSimilar_k5 false).vn 241).map (fin Tryz.f10) = yesF := by kernel_rfl
def planeSimilar6f_A2 : Orc := { cmp := [((.v 0), (.v 4), 0), (planeSimilar6f_e15, (.z 0), 0), (planeSimilar6f_e37, (.z 0), 0), (planeSimilar6f_e43, planeSimilar6f_e48, 0), (planeSimilar6f_e54, planeSimilar6f_e58, 0)], sq := [(planeSimilar6f_e15, some (.v 9)), (planeSimilar6f_e37, some (.v 9))], ne := [((.v 1), (.v 5)), (planeSimilar6f_e5, (.z 0)), (planeSimilar6f_e12, (.z 0)), ((.add (.v 6) (.sub (.v 5) (.v 1))), (.add (.v 6) (.sub (.v 5) (.v 5)))), (planeSimilar6f_e21, (.z 0)), (planeSimilar6f_e20, (.z 0))] }
theorem planeSimilar6f_p2  : (acode Tryz.prog (ctrA planeSimilar6f_A2) 20 (restN 3 (restN 3 (restN 3 (restN 3 (restN 3 (restN 4 planeSimilar_c)))))) (planeSimilar_k5 false).vn 241).map (fin Tryz.f10) = yesF := by kernel_rfl
def planeSimilar6f_A3 : Orc := { cmp := [((.v 0), (.v 4), 0), (planeSimilar6f_e15, (.z 0), 0), (planeSimilar6f_e37, (.z 0), 0)], sq := [(planeSimilar6f_e15, none), (planeSimilar6f_e37, none)], ne := [((.v 1), (.v 5)), (planeSimilar6f_e5, (.z 0)), (planeSimilar6f_e12, (.z 0)), ((.add (.v 6) (.sub (.v 5) (.v 1))), (.add (.v 6) (.sub (.v 5) (.v 5)))), (planeSimilar6f_e21, (.z 0)), (planeSimilar6f_e20, (.z 0))] }
theorem planeSimilar6f_p3  : (acode Tryz.prog (ctrA planeSimilar6f_A3) 20 (restN 3 (restN 3 (restN 3 (restN 3 (restN 3 (restN 4 planeSimilar_c)))))) (planeSimilar_k5 false).vn 241).map (fin Tryz.f10) = yesF := by kernel_rfl
def planeSimilar6f_A4 : Orc := { cmp := [((.v 0), (.v 4), 0), (planeSimilar6f_e15, (.z 0), 1), (planeSimilar6f_e37, (.z 0), 1), (planeSimilar6f_e43, planeSimilar6f_e48, 0), (planeSimilar6f_e54, planeSimilar6f_e58, 0)], sq := [(planeSimilar6f_e15, some (.v 9)), (planeSimilar6f_e37, some (.v 9))], ne := [((.v 1), (.v 5)), (planeSimilar6f_e5, (.z 0)), (planeSimilar6f_e12, (.z 0)), ((.add (.v 6) (.sub (.v 5) (.v 1))), (.add (.v 6) (.sub (.v 5) (.v 5)))), (planeSimilar6f_e21, (.z 0)), (planeSimilar6f_e20, (.z 0))] }
theorem planeSimilar6f_p4  : (acode Tryz.prog (ctrA planeSimilar6f_A4) 20 (restN 3 (restN 3 (restN 3 (restN 3 (restN 3 (restN 4 planeSimilar_c)))))) (planeSimilar_k5 false).vn 241).map (fin Tryz.f10) = yesF := by kernel_rfl
def planeSimilar6f_A5 : Orc := { cmp := [((.v 0), (.v 4), 0), (planeSimilar6f_e15, (.z 0), 1), (planeSimilar6f_e37, (.z 0), 1)], sq := [(planeSimilar6f_e15, none), (planeSimilar6f_e37, none)], ne := [((.v 1), (.v 5)), (planeSimilar6f_e5, (.z 0)), (planeSimilar6f_e12, (.z 0)), ((.add (.v 6) (.sub (.v 5) (.v 1))), (.add (.v 6) (.sub (.v 5) (.v 5)))), (planeSimilar6f_e21, (.z 0)), (planeSimilar6f_e20, (.z 0))] }
theorem planeSimilar6f_p5  : (acode Tryz.prog (ctrA planeSimilar6f_A5) 20 (restN 3 (restN 3 (restN 3 (restN 3 (restN 3 (restN 4 planeSimilar_c)))))) (planeSimilar_k5 false).vn 241).map (fin Tryz.f10) = yesF := by kernel_rfl
def planeSimilar6f_A6 : Orc := { cmp := [(planeSimilar6f_e15, (.z 0), -1), ((.add (.v 6) (.sub (.v 5) (.v 1))), (.add (.v 6) (.sub (.v 5) (.v 5))), 0), (planeSimilar6f_e37, (.z 0), -1)], ne := [((.v 0), (.v 4)), (planeSimilar6f_e5, (.z 0)), (planeSimilar6f_e12, (.z 0)), ((.add (.v 7) (.sub (.v 0) (.v 4))), (.add (.v 7) (.sub (.v 4) (.v 4)))), (planeSimilar6f_e21, (.z 0)), (planeSimilar6f_e20, (.z 0))] }
theorem planeSimilar6f_p6  : (acode Tryz.prog (ctrA planeSimilar6f_A6) 20 (restN 3 (restN 3 (restN 3 (restN 3 (restN 3 (restN 4 planeSimilar_c)))))) (planeSimilar_k5 false).vn 241).map (fin Tryz.f10) = yesF := by kernel_rfl
def planeSimilar6f_A7 : Orc := { cmp := [(planeSimilar6f_e15, (.z 0), -1), (planeSimilar6f_e37, (.z 0), -1)], ne := [((.v 0), (.v 4)), (planeSimilar6f_e5, (.z 0)), (planeSimilar6f_e12, (.z 0)), ((.add (.v 6) (.sub (.v 5) (.v 1))), (.add (.v 6) (.sub (.v 5) (.v 5)))), (planeSimilar6f_e21, (.z 0)), (planeSimilar6f_e20, (.z 0))] }
theorem planeSimilar6f_p7  : (acode Tryz.prog (ctrA planeSimilar6f_A7) 20 (restN 3 (restN 3 (restN 3 (restN 3 (restN 3 (restN 4 planeSimilar_c)))))) (planeSimilar_k5 false).vn 241).map (fin Tryz.f10) = yesF := by kernel_rfl
def planeSimilar6f_A8 : Orc := { cmp := [(planeSimilar6f_e15, (.z 0), 0), ((.add (.v 6) (.sub (.v 5) (.v 1))), (.add (.v 6) (.sub (.v 5) (.v 5))), 0), (planeSimilar6f_e37, (.z 0), 0), (planeSimilar6f_e43, planeSimilar6f_e48, 0), (planeSimilar6f_e54, planeSimilar6f_e58, 0)], sq := [(planeSimilar6f_e15, some (.v 9)), (planeSimilar6f_e37, some (.v 9))], ne := [((.v 0), (.v 4)), (planeSimilar6f_e5, (.z 0)), (planeSimilar6f_e12, (.z 0)), ((.add (.v 7) (.sub (.v 0) (.v 4))), (.add (.v 7) (.sub (.v 4) (.v 4)))), (planeSimilar6f_e21, (.z 0)), (planeSimilar6f_e20, (.z 0))] }
theorem planeSimilar6f_p8  : (acode Tryz.prog (ctrA planeSimilar6f_A8) 20 (restN 3 (restN 3 (restN 3 (restN 3 (restN 3 (restN 4 planeSimilar_c)))))) (planeSimilar_k5 false).vn 241).map (fin Tryz.f10) = yesF := by kernel_rfl
def planeSimilar6f_A9 : Orc := { cmp := [(planeSimilar6f_e15, (.z 0), 0), (planeSimilar6f_e37, (.z 0), 0), (planeSimilar6f_e43, planeSimilar6f_e48, 0), (planeSimilar6f_e54, planeSimilar6f_e58, 0)], sq := [(planeSimilar6f_e15, some (.v 9)), (planeSimilar6f_e37, some (.v 9))], ne := [((.v 0), (.v 4)), (planeSimilar6f_e5, (.z 0)), (planeSimilar6f_e12, (.z 0)), ((.add (.v 6) (.sub (.v 5) (.v 1))), (.add (.v 6) (.sub (.v 5) (.v 5)))), (planeSimilar6f_e21, (.z 0)), (planeSimilar6f_e20, (.z 0))] }
theorem planeSimilar6f_p9  : (acode Tryz.prog (ctrA planeSimilar6f_A9) 20 (restN 3 (restN 3 (restN 3 (restN 3 (restN 3 (restN 4 planeSimilar_c)))))) (planeSimilar_k5 false).vn 241).map (fin Tryz.f10) = yesF := by kernel_rfl
def planeSimilar6f_A10 : Orc := { cmp := [(planeSimilar6f_e15, (.z 0), 0), ((.add (.v 6) (.sub (.v 5) (.v 1))), (.add (.v 6) (.sub (.v 5) (.v 5))), 0), (planeSimilar6f_e37, (.z 0), 0)], sq := [(planeSimilar6f_e15, none), (planeSimilar6f_e37, none)], ne := [((.v 0), (.v 4)), (planeSimilar6f_e5, (.z 0)), (planeSimilar6f_e12, (.z 0)), ((.add (.v 7) (.sub (.v 0) (.v 4))), (.add (.v 7) (.sub (.v 4) (.v 4)))), (planeSimilar6f_e21, (.z 0)), (planeSimilar6f_e20, (.z 0))] }
theorem planeSimilar6f_p10  : (acode Tryz.prog (ctrA planeSimilar6f_A10) 20 (restN 3 (restN 3 (restN 3 (restN 3 (restN 3 (restN 4 planeSimilar_c)))))) (planeSimilar_k5 false).vn 241).map (fin Tryz.f10) = yesF := by kernel_rfl
def planeSimilar6f_A11 : Orc := { cmp := [(planeSimilar6f_e15, (.z 0), 0), (planeSimilar6f_e37, (.z 0), 0)], sq := [(planeSimilar6f_e15, none), (planeSimilar6f_e37, none)], ne := [((.v 0), (.v 4)), (planeSimilar6f_e5, (.z 0)), (planeSimilar6f_e12, (.z 0)), ((.add (.v 6) (.sub (.v 5) (.v 1))), (.add (.v 6) (.sub (.v 5) (.v 5)))), (planeSimilar6f_e21, (.z 0)), (planeSimilar6f_e20, (.z 0))] }
theorem planeSimilar6f_p11  : (acode Tryz.prog (ctrA planeSimilar6f_A11) 20 (restN 3 (restN 3 (restN 3 (restN 3 (restN 3 (restN 4 planeSimilar_c)))))) (planeSimilar_k5 false).vn 241).map (fin Tryz.f10) = yesF := by kernel_rfl
def planeSimilar6f_A12 : Orc := { cmp := [(planeSimilar6f_e15, (.z 0), 1), ((.add (.v 6) (.sub (.v 5) (.v 1))), (.add (.v 6) (.sub (.v 5) (.v 5))), 0), (planeSimilar6f_e37, (.z 0), 1), (planeSimilar6f_e43, planeSimilar6f_e48, 0), (planeSimilar6f_e54, planeSimilar6f_e58, 0)], sq := [(planeSimilar6f_e15, some (.v 9)), (planeSimilar6f_e37, some (.v 9))], ne := [((.v 0), (.v 4)), (planeSimilar6f_e5, (.z 0)), (planeSimilar6f_e12, (.z 0)), ((.add (.v 7) (.sub (.v 0) (.v 4))), (.add (.v 7) (.sub (.v 4) (.v 4)))), (planeSimilar6f_e21, (.z 0)), (planeSimilar6f_e20, (.z 0))] }
theorem planeSimilar6f_p12  : (acode Tryz.prog (ctrA planeSimilar6f_A12) 20 (restN 3 (restN 3 (restN 3 (restN 3 (restN 3 (restN 4 planeSimilar_c)))))) (planeSimilar_k5 false).vn 241).map (fin Tryz.f10) = yesF := by kernel_rfl
def planeSimilar6f_A13 : Orc := { cmp := [(planeSimilar6f_e15, (.z 0), 1), (planeSimilar6f_e37, (.z 0), 1), (planeSimilar6f_e43, planeSimilar6f_e48, 0), (planeSimilar6f_e54, planeSimilar6f_e58, 0)], sq := [(planeSimilar6f_e15, some (.v 9)), (planeSimilar6f_e37, some (.v 9))], ne := [((.v 0), (.v 4)), (planeSimilar6f_e5, (.z 0)), (planeSimilar6f_e12, (.z 0)), ((.add (.v 6) (.sub (.v 5) (.v 1))), (.add (.v 6) (.sub (.v 5) (.v 5)))), (planeSimilar6f_e21, (.z 0)), (planeSimilar6f_e20, (.z 0))] }
theorem planeSimilar6f_p13  : (acode Tryz.prog (ctrA planeSimilar6f_A13) 20 (restN 3 (restN 3 (restN 3 (restN 3 (restN 3 (restN 4 planeSimilar_c)))))) (planeSimilar_k5 false).vn 241).map (fin Tryz.f10) = yesF := by kernel_rfl
def planeSimilar6f_A14 : Orc := { cmp := [(planeSimilar6f_e15, (.z 0), 1), ((.add (.v 6) (.sub (.v 5) (.v 1))), (.add (.v 6) (.sub (.v 5) (.v 5))), 0), (planeSimilar6f_e37, (.z 0), 1)], sq := [(planeSimilar6f_e15, none), (planeSimilar6f_e37, none)], ne := [((.v 0), (.v 4)), (planeSimilar6f_e5, (.z 0)), (planeSimilar6f_e12, (.z 0)), ((.add (.v 7) (.sub (.v 0) (.v 4))), (.add (.v 7) (.sub (.v 4) (.v 4)))), (planeSimilar6f_e21, (.z 0)), (planeSimilar6f_e20, (.z 0))] }
theorem planeSimilar6f_p14  : (acode Tryz.prog (ctrA planeSimilar6f_A14) 20 (restN 3 (restN 3 (restN 3 (restN 3 (restN 3 (restN 4 planeSimilar_c)))))) (planeSimilar_k5 false).vn 241).map (fin Tryz.f10) = yesF := by kernel_rfl
def planeSimilar6f_A15 : Orc := { cmp := [(planeSimilar6f_e15, (.z 0), 1), (planeSimilar6f_e37, (.z 0), 1)], sq := [(planeSimilar6f_e15, none), (planeSimilar6f_e37, none)], ne := [((.v 0), (.v 4)), (planeSimilar6f_e5, (.z 0)), (planeSimilar6f_e12, (.z 0)), ((.add (.v 6) (.sub (.v 5) (.v 1))), (.add (.v 6) (.sub (.v 5) (.v 5)))), (planeSimilar6f_e21, (.z 0)), (planeSimilar6f_e20, (.z 0))] }
theorem planeSimilar6f_p15  : (acode Tryz.prog (ctrA planeSimilar6f_A15) 20 (restN 3 (restN 3 (restN 3 (restN 3 (restN 3 (restN 4 planeSimilar_c)))))) (planeSimilar_k5 false).vn 241).map (fin Tryz.f10) = yesF := by kernel_rfl
theorem planeSimilar6f_dec (ρ : Nat → Rat)  : ∃ (ρ' : Nat → Rat) (A : Orc), (∀ k, k < 9 → ρ' k = ρ k) ∧ A.OK ρ' ∧ (acode Tryz.prog (ctrA A) 20 (restN 3 (restN 3 (restN 3 (restN 3 (restN 3 (restN 4 planeSimilar_c)))))) (planeSimilar_k5 false).vn 241).map (fin Tryz.f10) = yesF := by
  refine ex_up ρ planeSimilar6f_e15 (by kernel_rfl) fun σ up_eq up_root => ?_
  by_cases h0 : RE.eval σ (.v 0) = RE.eval σ (.v 4)
  · have g0 := h0
    replace h0 := cmpR_zero.2 h0
    by_cases h1 : RE.eval σ (.v 1) = RE.eval σ (.v 5)
    · have g1 := h1
      replace h1 := cmpR_zero.2 h1
      have h2 := cmpR_zero.2 (eqC (x := (.add (.v 6) (.sub (.v 5) (.v 1)))) (y := (.add (.v 6) (.sub (.v 5) (.v 5)))) (nz := [(.z 2)]) (varsA_4_5 σ g0.symm g1.symm) (nz_cons (two_ne _) nz_nil) (by kernel_rfl))
      have h3 := cmpR_zero.2 (eqC (x := (.add (.v 7) (.sub (.v 0) (.v 4)))) (y := (.add (.v 7) (.sub (.v 4) (.v 4)))) (nz := [(.z 2)]) (varsA_4_5 σ g0.symm g1.symm) (nz_cons (two_ne _) nz_nil) (by kernel_rfl))
      exact ⟨σ, planeSimilar6f_A0, up_eq, (orc_cmp h0 (orc_cmp h1 (orc_cmp h2 (orc_cmp h3 orc_nil)))), planeSimilar6f_p0⟩
    · skip
      have h2 := normC (b := planeSimilar6f_e5) (x := (.v 1)) (y := (.v 5)) (f := (.sub (.v 4) (.v 0))) (nz := [(.z 2)]) (varsA_4 σ g0.symm) (nz_cons (two_ne _) nz_nil) (by kernel_rfl) h1
      have h3 := ne_like (likeC (x := planeSimilar6f_e12) (y := (.z 0)) (k := (.z 2)) (p := planeSimilar6f_e5) (q := (.z 0)) (nz := [planeSimilar6f_e5, (.z 2)]) (varsA_4 σ g0.symm) (nz_cons h2 (nz_cons (two_ne _) nz_nil)) (by kernel_rfl)) (show ((2 : Int) : Rat) ≠ (0 : Rat) from by decide +kernel) h2
      rcases cmpR_bound (RE.eval σ planeSimilar6f_e15) (RE.eval σ (.z 0)) with h4 | h4 | h4
      · skip
        have h5 := ne_like (likeC (x := (.add (.v 6) (.sub (.v 5) (.v 1)))) (y := (.add (.v 6) (.sub (.v 5) (.v 5)))) (k := (.z (-1))) (p := (.v 1)) (q := (.v 5)) (nz := [planeSimilar6f_e5, planeSimilar6f_e12, planeSimilar6f_e15, (.z 2)]) (varsA_4 σ g0.symm) (nz_cons h2 (nz_cons h3 (nz_cons (ne_of_cmp h4 rfl) (nz_cons (two_ne _) nz_nil)))) (by kernel_rfl)) (show ((-1 : Int) : Rat) ≠ (0 : Rat) from by decide +kernel) h1
        have h6 := ne_like (likeC (x := planeSimilar6f_e21) (y := (.z 0)) (k := (.z 2)) (p := planeSimilar6f_e5) (q := (.z 0)) (nz := [planeSimilar6f_e5, planeSimilar6f_e12, planeSimilar6f_e15, (.z 2)]) (varsA_4 σ g0.symm) (nz_cons h2 (nz_cons h3 (nz_cons (ne_of_cmp h4 rfl) (nz_cons (two_ne _) nz_nil)))) (by kernel_rfl)) (show ((2 : Int) : Rat) ≠ (0 : Rat) from by decide +kernel) h2
        have h7 := ne_like (likeC (x := planeSimilar6f_e20) (y := (.z 0)) (k := (.z 1)) (p := planeSimilar6f_e5) (q := (.z 0)) (nz := [planeSimilar6f_e5, planeSimilar6f_e12, planeSimilar6f_e15, planeSimilar6f_e21, (.z 2)]) (varsA_4 σ g0.symm) (nz_cons h2 (nz_cons h3 (nz_cons (ne_of_cmp h4 rfl) (nz_cons h6 (nz_cons (two_ne _) nz_nil))))) (by kernel_rfl)) (show ((1 : Int) : Rat) ≠ (0 : Rat) from by decide +kernel) h2
        have h8 := cmpR_like (likeC (x := planeSimilar6f_e37) (y := (.z 0)) (k := (.z 1)) (p := planeSimilar6f_e15) (q := (.z 0)) (nz := [planeSimilar6f_e5, planeSimilar6f_e12, planeSimilar6f_e15, planeSimilar6f_e21, planeSimilar6f_e20, (.z 2)]) (varsA_4 σ g0.symm) (nz_cons h2 (nz_cons h3 (nz_cons (ne_of_cmp h4 rfl) (nz_cons h6 (nz_cons h7 (nz_cons (two_ne _) nz_nil)))))) (by kernel_rfl)) (show (0 : Rat) < ((1 : Int) : Rat) from by decide +kernel) h4
        exact ⟨σ, planeSimilar6f_A1, up_eq, (orc_cmp h0 (orc_cmp h4 (orc_cmp h8 (orc_ne h1 (orc_ne h2 (orc_ne h3 (orc_ne h5 (orc_ne h6 (orc_ne h7 orc_nil))))))))), planeSimilar6f_p1⟩
      · skip
        by_cases h5 : ∃ s : Rat, RE.eval σ planeSimilar6f_e15 = s * s
        · replace h5 := up_root h5
          have h6 := ne_like (likeC (x := (.add (.v 6) (.sub (.v 5) (.v 1)))) (y := (.add (.v 6) (.sub (.v 5) (.v 5)))) (k := (.z (-1))) (p := (.v 1)) (q := (.v 5)) (nz := [planeSimilar6f_e5, planeSimilar6f_e12, (.z 2)]) (varsA_4 σ g0.symm) (nz_cons h2 (nz_cons h3 (nz_cons (two_ne _) nz_nil))) (by kernel_rfl)) (show ((-1 : Int) : Rat) ≠ (0 : Rat) from by decide +kernel) h1
          have h7 := ne_like (likeC (x := planeSimilar6f_e21) (y := (.z 0)) (k := (.z 2)) (p := planeSimilar6f_e5) (q := (.z 0)) (nz := [planeSimilar6f_e5, planeSimilar6f_e12, (.z 2)]) (varsA_4 σ g0.symm) (nz_cons h2 (nz_cons h3 (nz_cons (two_ne _) nz_nil))) (by kernel_rfl)) (show ((2 : Int) : Rat) ≠ (0 : Rat) from by decide +kernel) h2
          have h8 := ne_like (likeC (x := planeSimilar6f_e20) (y := (.z 0)) (k := (.z 1)) (p := planeSimilar6f_e5) (q := (.z 0)) (nz := [planeSimilar6f_e5, planeSimilar6f_e12, planeSimilar6f_e21, (.z 2)]) (varsA_4 σ g0.symm) (nz_cons h2 (nz_cons h3 (nz_cons h7 (nz_cons (two_ne _) nz_nil)))) (by kernel_rfl)) (show ((1 : Int) : Rat) ≠ (0 : Rat) from by decide +kernel) h2
          have h9 := cmpR_like (likeC (x := planeSimilar6f_e37) (y := (.z 0)) (k := (.z 1)) (p := planeSimilar6f_e15) (q := (.z 0)) (nz := [planeSimilar6f_e5, planeSimilar6f_e12, planeSimilar6f_e21, planeSimilar6f_e20, (.z 2)]) (varsA_4 σ g0.symm) (nz_cons h2 (nz_cons h3 (nz_cons h7 (nz_cons h8 (nz_cons (two_ne _) nz_nil))))) (by kernel_rfl)) (show (0 : Rat) < ((1 : Int) : Rat) from by decide +kernel) h4
          have h10 := sq_like (eqC (x := planeSimilar6f_e37) (y := planeSimilar6f_e15) (nz := [planeSimilar6f_e5, planeSimilar6f_e12, planeSimilar6f_e21, planeSimilar6f_e20, (.z 2)]) (varsA_4 σ g0.symm) (nz_cons h2 (nz_cons h3 (nz_cons h7 (nz_cons h8 (nz_cons (two_ne _) nz_nil))))) (by kernel_rfl)) h5
          have h11 := cmpR_zero.2 (eqC (x := planeSimilar6f_e43) (y := planeSimilar6f_e48) (nz := [planeSimilar6f_e5, planeSimilar6f_e12, planeSimilar6f_e21, planeSimilar6f_e20, (.z 2)]) (varsA_4 σ g0.symm) (nz_cons h2 (nz_cons h3 (nz_cons h7 (nz_cons h8 (nz_cons (two_ne _) nz_nil))))) (by kernel_rfl))
          have h12 := cmpR_zero.2 (eqC (x := planeSimilar6f_e54) (y := planeSimilar6f_e58) (nz := [planeSimilar6f_e5, planeSimilar6f_e12, planeSimilar6f_e21, planeSimilar6f_e20, (.z 2)]) (varsA_4 σ g0.symm) (nz_cons h2 (nz_cons h3 (nz_cons h7 (nz_cons h8 (nz_cons (two_ne _) nz_nil))))) (by kernel_rfl))
          exact ⟨σ, planeSimilar6f_A2, up_eq, (orc_cmp h0 (orc_cmp h4 (orc_cmp h9 (orc_cmp h11 (orc_cmp h12 (orc_root h5 (orc_root h10 (orc_ne h1 (orc_ne h2 (orc_ne h3 (orc_ne h6 (orc_ne h7 (orc_ne h8 orc_nil))))))))))))), planeSimilar6f_p2⟩
        · replace h5 := not_ex h5
          have h6 := ne_like (likeC (x := (.add (.v 6) (.sub (.v 5) (.v 1)))) (y := (.add (.v 6) (.sub (.v 5) (.v 5)))) (k := (.z (-1))) (p := (.v 1)) (q := (.v 5)) (nz := [planeSimilar6f_e5, planeSimilar6f_e12, (.z 2)]) (varsA_4 σ g0.symm) (nz_cons h2 (nz_cons h3 (nz_cons (two_ne _) nz_nil))) (by kernel_rfl)) (show ((-1 : Int) : Rat) ≠ (0 : Rat) from by decide +kernel) h1
          have h7 := ne_like (likeC (x := planeSimilar6f_e21) (y := (.z 0)) (k := (.z 2)) (p := planeSimilar6f_e5) (q := (.z 0)) (nz := [planeSimilar6f_e5, planeSimilar6f_e12, (.z 2)]) (varsA_4 σ g0.symm) (nz_cons h2 (nz_cons h3 (nz_cons (two_ne _) nz_nil))) (by kernel_rfl)) (show ((2 : Int) : Rat) ≠ (0 : Rat) from by decide +kernel) h2
          have h8 := ne_like (likeC (x := planeSimilar6f_e20) (y := (.z 0)) (k := (.z 1)) (p := planeSimilar6f_e5) (q := (.z 0)) (nz := [planeSimilar6f_e5, planeSimilar6f_e12, planeSimilar6f_e21, (.z 2)]) (varsA_4 σ g0.symm) (nz_cons h2 (nz_cons h3 (nz_cons h7 (nz_cons (two_ne _) nz_nil)))) (by kernel_rfl)) (show ((1 : Int) : Rat) ≠ (0 : Rat) from by decide +kernel) h2
          have h9 := cmpR_like (likeC (x := planeSimilar6f_e37) (y := (.z 0)) (k := (.z 1)) (p := planeSimilar6f_e15) (q := (.z 0)) (nz := [planeSimilar6f_e5, planeSimilar6f_e12, planeSimilar6f_e21, planeSimilar6f_e20, (.z 2)]) (varsA_4 σ g0.symm) (nz_cons h2 (nz_cons h3 (nz_cons h7 (nz_cons h8 (nz_cons (two_ne _) nz_nil))))) (by kernel_rfl)) (show (0 : Rat) < ((1 : Int) : Rat) from by decide +kernel) h4
          have h10 := nosq_like (eqC (x := planeSimilar6f_e37) (y := planeSimilar6f_e15) (nz := [planeSimilar6f_e5, planeSimilar6f_e12, planeSimilar6f_e21, planeSimilar6f_e20, (.z 2)]) (varsA_4 σ g0.symm) (nz_cons h2 (nz_cons h3 (nz_cons h7 (nz_cons h8 (nz_cons (two_ne _) nz_nil))))) (by kernel_rfl)) h5
          exact ⟨σ, planeSimilar6f_A3, up_eq, (orc_cmp h0 (orc_cmp h4 (orc_cmp h9 (orc_noroot h5 (orc_noroot h10 (orc_ne h1 (orc_ne h2 (orc_ne h3 (orc_ne h6 (orc_ne h7 (orc_ne h8 orc_nil))))))))))), planeSimilar6f_p3⟩
      · skip
        by_cases h5 : ∃ s : Rat, RE.eval σ planeSimilar6f_e15 = s * s
        · replace h5 := up_root h5
          have h6 := ne_like (likeC (x := (.add (.v 6) (.sub (.v 5) (.v 1)))) (y := (.add (.v 6) (.sub (.v 5) (.v 5)))) (k := (.z (-1))) (p := (.v 1)) (q := (.v 5)) (nz := [planeSimilar6f_e5, planeSimilar6f_e12, planeSimilar6f_e15, (.z 2)]) (varsA_4 σ g0.symm) (nz_cons h2 (nz_cons h3 (nz_cons (ne_of_cmp h4 rfl) (nz_cons (two_ne _) nz_nil)))) (by kernel_rfl)) (show ((-1 : Int) : Rat) ≠ (0 : Rat) from by decide +kernel) h1
          have h7 := ne_like (likeC (x := planeSimilar6f_e21) (y := (.z 0)) (k := (.z 2)) (p := planeSimilar6f_e5) (q := (.z 0)) (nz := [planeSimilar6f_e5, planeSimilar6f_e12, planeSimilar6f_e15, (.z 2)]) (varsA_4 σ g0.symm) (nz_cons h2 (nz_cons h3 (nz_cons (ne_of_cmp h4 rfl) (nz_cons (two_ne _) nz_nil)))) (by kernel_rfl)) (show ((2 : Int) : Rat) ≠ (0 : Rat) from by decide +kernel) h2
          have h8 := ne_like (likeC (x := planeSimilar6f_e20) (y := (.z 0)) (k := (.z 1)) (p := planeSimilar6f_e5) (q := (.z 0)) (nz := [planeSimilar6f_e5, planeSimilar6f_e12, planeSimilar6f_e15, planeSimilar6f_e21, (.z 2)]) (varsA_4 σ g0.symm) (nz_cons h2 (nz_cons h3 (nz_cons (ne_of_cmp h4 rfl) (nz_cons h7 (nz_cons (two_ne _) nz_nil))))) (by kernel_rfl)) (show ((1 : Int) : Rat) ≠ (0 : Rat) from by decide +kernel) h2
          have h9 := cmpR_like (likeC (x := planeSimilar6f_e37) (y := (.z 0)) (k := (.z 1)) (p := planeSimilar6f_e15) (q := (.z 0)) (nz := [planeSimilar6f_e5, planeSimilar6f_e12, planeSimilar6f_e15, planeSimilar6f_e21, planeSimilar6f_e20, (.z 2)]) (varsA_4 σ g0.symm) (nz_cons h2 (nz_cons h3 (nz_cons (ne_of_cmp h4 rfl) (nz_cons h7 (nz_cons h8 (nz_cons (two_ne _) nz_nil)))))) (by kernel_rfl)) (show (0 : Rat) < ((1 : Int) : Rat) from by decide +kernel) h4
          have h10 := sq_like (eqC (x := planeSimilar6f_e37) (y := planeSimilar6f_e15) (nz := [planeSimilar6f_e5, planeSimilar6f_e12, planeSimilar6f_e15, planeSimilar6f_e21, planeSimilar6f_e20, planeSimilar6f_e37, (.z 2)]) (varsA_4 σ g0.symm) (nz_cons h2 (nz_cons h3 (nz_cons (ne_of_cmp h4 rfl) (nz_cons h7 (nz_cons h8 (nz_cons (ne_of_cmp h9 rfl) (nz_cons (two_ne _) nz_nil))))))) (by kernel_rfl)) h5
          have h11 := cmpR_zero.2 (eqC (x := planeSimilar6f_e43) (y := planeSimilar6f_e48) (nz := [planeSimilar6f_e5, planeSimilar6f_e12, planeSimilar6f_e15, planeSimilar6f_e21, planeSimilar6f_e20, planeSimilar6f_e37, (.z 2)]) (varsA_4 σ g0.symm) (nz_cons h2 (nz_cons h3 (nz_cons (ne_of_cmp h4 rfl) (nz_cons h7 (nz_cons h8 (nz_cons (ne_of_cmp h9 rfl) (nz_cons (two_ne _) nz_nil))))))) (by kernel_rfl))
          have h12 := cmpR_zero.2 (eqC (x := planeSimilar6f_e54) (y := planeSimilar6f_e58) (nz := [planeSimilar6f_e5, planeSimilar6f_e12, planeSimilar6f_e15, planeSimilar6f_e21, planeSimilar6f_e20, planeSimilar6f_e37, (.z 2)]) (varsA_4 σ g0.symm) (nz_cons h2 (nz_cons h3 (nz_cons (ne_of_cmp h4 rfl) (nz_cons h7 (nz_cons h8 (nz_cons (ne_of_cmp h9 rfl) (nz_cons (two_ne _) nz_nil))))))) (by kernel_rfl))
          exact ⟨σ, planeSimilar6f_A4, up_eq, (orc_cmp h0 (orc_cmp h4 (orc_cmp h9 (orc_cmp h11 (orc_cmp h12 (orc_root h5 (orc_root h10 (orc_ne h1 (orc_ne h2 (orc_ne h3 (orc_ne h6 (orc_ne h7 (orc_ne h8 orc_nil))))))))))))), planeSimilar6f_p4⟩
        · replace h5 := not_ex h5
          have h6 := ne_like (likeC (x := (.add (.v 6) (.sub (.v 5) (.v 1)))) (y := (.add (.v 6) (.sub (.v 5) (.v 5)))) (k := (.z (-1))) (p := (.v 1)) (q := (.v 5)) (nz := [planeSimilar6f_e5, planeSimilar6f_e12, planeSimilar6f_e15, (.z 2)]) (varsA_4 σ g0.symm) (nz_cons h2 (nz_cons h3 (nz_cons (ne_of_cmp h4 rfl) (nz_cons (two_ne _) nz_nil)))) (by kernel_rfl)) (show ((-1 : Int) : Rat) ≠ (0 : Rat) from by decide +kernel) h1
          have h7 := ne_like (likeC (x := planeSimilar6f_e21) (y := (.z 0)) (k := (.z 2)) (p := planeSimilar6f_e5) (q := (.z 0)) (nz := [planeSimilar6f_e5, planeSimilar6f_e12, planeSimilar6f_e15, (.z 2)]) (varsA_4 σ g0.symm) (nz_cons h2 (nz_cons h3 (nz_cons (ne_of_cmp h4 rfl) (nz_cons (two_ne _) nz_nil)))) (by kernel_rfl)) (show ((2 : Int) : Rat) ≠ (0 : Rat) from by decide +kernel) h2
          have h8 := ne_like (likeC (x := planeSimilar6f_e20) (y := (.z 0)) (k := (.z 1)) (p := planeSimilar6f_e5) (q := (.z 0)) (nz := [planeSimilar6f_e5, planeSimilar6f_e12, planeSimilar6f_e15, planeSimilar6f_e21, (.z 2)]) (varsA_4 σ g0.symm) (nz_cons h2 (nz_cons h3 (nz_cons (ne_of_cmp h4 rfl) (nz_cons h7 (nz_cons (two_ne _) nz_nil))))) (by kernel_rfl)) (show ((1 : Int) : Rat) ≠ (0 : Rat) from by decide +kernel) h2
          have h9 := cmpR_like (likeC (x := planeSimilar6f_e37) (y := (.z 0)) (k := (.z 1)) (p := planeSimilar6f_e15) (q := (.z 0)) (nz := [planeSimilar6f_e5, planeSimilar6f_e12, planeSimilar6f_e15, planeSimilar6f_e21, planeSimilar6f_e20, (.z 2)]) (varsA_4 σ g0.symm) (nz_cons h2 (nz_cons h3 (nz_cons (ne_of_cmp h4 rfl) (nz_cons h7 (nz_cons h8 (nz_cons (two_ne _) nz_nil)))))) (by kernel_rfl)) (show (0 : Rat) < ((1 : Int) : Rat) from by decide +kernel) h4
          have h10 := nosq_like (eqC (x := planeSimilar6f_e37) (y := planeSimilar6f_e15) (nz := [planeSimilar6f_e5, planeSimilar6f_e12, planeSimilar6f_e15, planeSimilar6f_e21, planeSimilar6f_e20, planeSimilar6f_e37, (.z 2)]) (varsA_4 σ g0.symm) (nz_cons h2 (nz_cons h3 (nz_cons (ne_of_cmp h4 rfl) (nz_cons h7 (nz_cons h8 (nz_cons (ne_of_cmp h9 rfl) (nz_cons (two_ne _) nz_nil))))))) (by kernel_rfl)) h5
          exact ⟨σ, planeSimilar6f_A5, up_eq, (orc_cmp h0 (orc_cmp h4 (orc_cmp h9 (orc_noroot h5 (orc_noroot h10 (orc_ne h1 (orc_ne h2 (orc_ne h3 (orc_ne h6 (orc_ne h7 (orc_ne h8 orc_nil))))))))))), planeSimilar6f_p5⟩
  · skip
    have h1 := normC (b := planeSimilar6f_e5) (x := (.v 0)) (y := (.v 4)) (f := (.sub (.v 5) (.v 1))) (nz := [(.z 2)]) (varsA σ) (nz_cons (two_ne _) nz_nil) (by kernel_rfl) h0
    have h2 := ne_like (likeC (x := planeSimilar6f_e12) (y := (.z 0)) (k := (.z 2)) (p := planeSimilar6f_e5) (q := (.z 0)) (nz := [planeSimilar6f_e5, (.z 2)]) (varsA σ) (nz_cons h1 (nz_cons (two_ne _) nz_nil)) (by kernel_rfl)) (show ((2 : Int) : Rat) ≠ (0 : Rat) from by decide +kernel) h1
    rcases cmpR_bound (RE.eval σ planeSimilar6f_e15) (RE.eval σ (.z 0)) with h3 | h3 | h3
    · skip
      by_cases h4 : RE.eval σ (.add (.v 6) (.sub (.v 5) (.v 1))) = RE.eval σ (.add (.v 6) (.sub (.v 5) (.v 5)))
      · have g4 := h4
        replace h4 := cmpR_zero.2 h4
        have h5 := ne_like (likeC (x := (.add (.v 7) (.sub (.v 0) (.v 4)))) (y := (.add (.v 7) (.sub (.v 4) (.v 4)))) (k := (.z 1)) (p := (.v 0)) (q := (.v 4)) (nz := [planeSimilar6f_e5, planeSimilar6f_e12, planeSimilar6f_e15, (.z 2)]) (varsA σ) (nz_cons h1 (nz_cons h2 (nz_cons (ne_of_cmp h3 rfl) (nz_cons (two_ne _) nz_nil)))) (by kernel_rfl)) (show ((1 : Int) : Rat) ≠ (0 : Rat) from by decide +kernel) h0
        have h6 := ne_like (likeC (x := planeSimilar6f_e21) (y := (.z 0)) (k := (.z 2)) (p := planeSimilar6f_e5) (q := (.z 0)) (nz := [planeSimilar6f_e5, planeSimilar6f_e12, planeSimilar6f_e15, (.z 2)]) (varsA σ) (nz_cons h1 (nz_cons h2 (nz_cons (ne_of_cmp h3 rfl) (nz_cons (two_ne _) nz_nil)))) (by kernel_rfl)) (show ((2 : Int) : Rat) ≠ (0 : Rat) from by decide +kernel) h1
        have h7 := ne_like (likeC (x := planeSimilar6f_e20) (y := (.z 0)) (k := (.z 1)) (p := planeSimilar6f_e5) (q := (.z 0)) (nz := [planeSimilar6f_e5, planeSimilar6f_e12, planeSimilar6f_e15, planeSimilar6f_e21, (.z 2)]) (varsA σ) (nz_cons h1 (nz_cons h2 (nz_cons (ne_of_cmp h3 rfl) (nz_cons h6 (nz_cons (two_ne _) nz_nil))))) (by kernel_rfl)) (show ((1 : Int) : Rat) ≠ (0 : Rat) from by decide +kernel) h1
        have h8 := cmpR_like (likeC (x := planeSimilar6f_e37) (y := (.z 0)) (k := (.z 1)) (p := planeSimilar6f_e15) (q := (.z 0)) (nz := [planeSimilar6f_e5, planeSimilar6f_e12, planeSimilar6f_e15, planeSimilar6f_e21, planeSimilar6f_e20, (.z 2)]) (varsA σ) (nz_cons h1 (nz_cons h2 (nz_cons (ne_of_cmp h3 rfl) (nz_cons h6 (nz_cons h7 (nz_cons (two_ne _) nz_nil)))))) (by kernel_rfl)) (show (0 : Rat) < ((1 : Int) : Rat) from by decide +kernel) h3
        exact ⟨σ, planeSimilar6f_A6, up_eq, (orc_cmp h3 (orc_cmp h4 (orc_cmp h8 (orc_ne h0 (orc_ne h1 (orc_ne h2 (orc_ne h5 (orc_ne h6 (orc_ne h7 orc_nil))))))))), planeSimilar6f_p6⟩
      · skip
        have h5 := ne_like (likeC (x := planeSimilar6f_e21) (y := (.z 0)) (k := (.z 2)) (p := planeSimilar6f_e5) (q := (.z 0)) (nz := [planeSimilar6f_e5, planeSimilar6f_e12, planeSimilar6f_e15, (.z 2)]) (varsA σ) (nz_cons h1 (nz_cons h2 (nz_cons (ne_of_cmp h3 rfl) (nz_cons (two_ne _) nz_nil)))) (by kernel_rfl)) (show ((2 : Int) : Rat) ≠ (0 : Rat) from by decide +kernel) h1
        have h6 := ne_like (likeC (x := planeSimilar6f_e20) (y := (.z 0)) (k := (.z 1)) (p := planeSimilar6f_e5) (q := (.z 0)) (nz := [planeSimilar6f_e5, planeSimilar6f_e12, planeSimilar6f_e15, planeSimilar6f_e21, (.z 2)]) (varsA σ) (nz_cons h1 (nz_cons h2 (nz_cons (ne_of_cmp h3 rfl) (nz_cons h5 (nz_cons (two_ne _) nz_nil))))) (by kernel_rfl)) (show ((1 : Int) : Rat) ≠ (0 : Rat) from by decide +kernel) h1
        have h7 := cmpR_like (likeC (x := planeSimilar6f_e37) (y := (.z 0)) (k := (.z 1)) (p := planeSimilar6f_e15) (q := (.z 0)) (nz := [planeSimilar6f_e5, planeSimilar6f_e12, planeSimilar6f_e15, planeSimilar6f_e21, planeSimilar6f_e20, (.z 2)]) (varsA σ) (nz_cons h1 (nz_cons h2 (nz_cons (ne_of_cmp h3 rfl) (nz_cons h5 (nz_cons h6 (nz_cons (two_ne _) nz_nil)))))) (by kernel_rfl)) (show (0 : Rat) < ((1 : Int) : Rat) from by decide +kernel) h3
        exact ⟨σ, planeSimilar6f_A7, up_eq, (orc_cmp h3 (orc_cmp h7 (orc_ne h0 (orc_ne h1 (orc_ne h2 (orc_ne h4 (orc_ne h5 (orc_ne h6 orc_nil)))))))), planeSimilar6f_p7⟩
    · skip
      by_cases h4 : ∃ s : Rat, RE.eval σ planeSimilar6f_e15 = s * s
      · replace h4 := up_root h4
        by_cases h5 : RE.eval σ (.add (.v 6) (.sub (.v 5) (.v 1))) = RE.eval σ (.add (.v 6) (.sub (.v 5) (.v 5)))
        · have g5 := h5
          replace h5 := cmpR_zero.2 h5
          have h6 := ne_like (likeC (x := (.add (.v 7) (.sub (.v 0) (.v 4)))) (y := (.add (.v 7) (.sub (.v 4) (.v 4)))) (k := (.z 1)) (p := (.v 0)) (q := (.v 4)) (nz := [planeSimilar6f_e5, planeSimilar6f_e12, (.z 2)]) (varsA σ) (nz_cons h1 (nz_cons h2 (nz_cons (two_ne _) nz_nil))) (by kernel_rfl)) (show ((1 : Int) : Rat) ≠ (0 : Rat) from by decide +kernel) h0
          have h7 := ne_like (likeC (x := planeSimilar6f_e21) (y := (.z 0)) (k := (.z 2)) (p := planeSimilar6f_e5) (q := (.z 0)) (nz := [planeSimilar6f_e5, planeSimilar6f_e12, (.z 2)]) (varsA σ) (nz_cons h1 (nz_cons h2 (nz_cons (two_ne _) nz_nil))) (by kernel_rfl)) (show ((2 : Int) : Rat) ≠ (0 : Rat) from by decide +kernel) h1
          have h8 := ne_like (likeC (x := planeSimilar6f_e20) (y := (.z 0)) (k := (.z 1)) (p := planeSimilar6f_e5) (q := (.z 0)) (nz := [planeSimilar6f_e5, planeSimilar6f_e12, planeSimilar6f_e21, (.z 2)]) (varsA σ) (nz_cons h1 (nz_cons h2 (nz_cons h7 (nz_cons (two_ne _) nz_nil)))) (by kernel_rfl)) (show ((1 : Int) : Rat) ≠ (0 : Rat) from by decide +kernel) h1
          have h9 := cmpR_like (likeC (x := planeSimilar6f_e37) (y := (.z 0)) (k := (.z 1)) (p := planeSimilar6f_e15) (q := (.z 0)) (nz := [planeSimilar6f_e5, planeSimilar6f_e12, planeSimilar6f_e21, planeSimilar6f_e20, (.z 2)]) (varsA σ) (nz_cons h1 (nz_cons h2 (nz_cons h7 (nz_cons h8 (nz_cons (two_ne _) nz_nil))))) (by kernel_rfl)) (show (0 : Rat) < ((1 : Int) : Rat) from by decide +kernel) h3
          have h10 := sq_like (eqC (x := planeSimilar6f_e37) (y := planeSimilar6f_e15) (nz := [planeSimilar6f_e5, planeSimilar6f_e12, planeSimilar6f_e21, planeSimilar6f_e20, (.z 2)]) (varsA σ) (nz_cons h1 (nz_cons h2 (nz_cons h7 (nz_cons h8 (nz_cons (two_ne _) nz_nil))))) (by kernel_rfl)) h4
          have h11 := cmpR_zero.2 (eqC (x := planeSimilar6f_e43) (y := planeSimilar6f_e48) (nz := [planeSimilar6f_e5, planeSimilar6f_e12, planeSimilar6f_e21, planeSimilar6f_e20, (.z 2)]) (varsA σ) (nz_cons h1 (nz_cons h2 (nz_cons h7 (nz_cons h8 (nz_cons (two_ne _) nz_nil))))) (by kernel_rfl))
          have h12 := cmpR_zero.2 (eqC (x := planeSimilar6f_e54) (y := planeSimilar6f_e58) (nz := [planeSimilar6f_e5, planeSimilar6f_e12, planeSimilar6f_e21, planeSimilar6f_e20, (.z 2)]) (varsA σ) (nz_cons h1 (nz_cons h2 (nz_cons h7 (nz_cons h8 (nz_cons (two_ne _) nz_nil))))) (by kernel_rfl))
          exact ⟨σ, planeSimilar6f_A8, up_eq, (orc_cmp h3 (orc_cmp h5 (orc_cmp h9 (orc_cmp h11 (orc_cmp h12 (orc_root h4 (orc_root h10 (orc_ne h0 (orc_ne h1 (orc_ne h2 (orc_ne h6 (orc_ne h7 (orc_ne h8 orc_nil))))))))))))), planeSimilar6f_p8⟩
        · skip
          have h6 := ne_like (likeC (x := planeSimilar6f_e21) (y := (.z 0)) (k := (.z 2)) (p := planeSimilar6f_e5) (q := (.z 0)) (nz := [planeSimilar6f_e5, planeSimilar6f_e12, (.z 2)]) (varsA σ) (nz_cons h1 (nz_cons h2 (nz_cons (two_ne _) nz_nil))) (by kernel_rfl)) (show ((2 : Int) : Rat) ≠ (0 : Rat) from by decide +kernel) h1
          have h7 := ne_like (likeC (x := planeSimilar6f_e20) (y := (.z 0)) (k := (.z 1)) (p := planeSimilar6f_e5) (q := (.z 0)) (nz := [planeSimilar6f_e5, planeSimilar6f_e12, planeSimilar6f_e21, (.z 2)]) (varsA σ) (nz_cons h1 (nz_cons h2 (nz_cons h6 (nz_cons (two_ne _) nz_nil)))) (by kernel_rfl)) (show ((1 : Int) : Rat) ≠ (0 : Rat) from by decide +kernel) h1
          have h8 := cmpR_like (likeC (x := planeSimilar6f_e37) (y := (.z 0)) (k := (.z 1)) (p := planeSimilar6f_e15) (q := (.z 0)) (nz := [planeSimilar6f_e5, planeSimilar6f_e12, planeSimilar6f_e21, planeSimilar6f_e20, (.z 2)]) (varsA σ) (nz_cons h1 (nz_cons h2 (nz_cons h6 (nz_cons h7 (nz_cons (two_ne _) nz_nil))))) (by kernel_rfl)) (show (0 : Rat) < ((1 : Int) : Rat) from by decide +kernel) h3
          have h9 := sq_like (eqC (x := planeSimilar6f_e37) (y := planeSimilar6f_e15) (nz := [planeSimilar6f_e5, planeSimilar6f_e12, planeSimilar6f_e21, planeSimilar6f_e20, (.z 2)]) (varsA σ) (nz_cons h1 (nz_cons h2 (nz_cons h6 (nz_cons h7 (nz_cons (two_ne _) nz_nil))))) (by kernel_rfl)) h4
          have h10 := cmpR_zero.2 (eqC (x := planeSimilar6f_e43) (y := planeSimilar6f_e48) (nz := [planeSimilar6f_e5, planeSimilar6f_e12, planeSimilar6f_e21, planeSimilar6f_e20, (.z 2)]) (varsA σ) (nz_cons h1 (nz_cons h2 (nz_cons h6 (nz_cons h7 (nz_cons (two_ne _) nz_nil))))) (by kernel_rfl))
          have h11 := cmpR_zero.2 (eqC (x := planeSimilar6f_e54) (y := planeSimilar6f_e58) (nz := [planeSimilar6f_e5, planeSimilar6f_e12, planeSimilar6f_e21, planeSimilar6f_e20, (.z 2)]) (varsA σ) (nz_cons h1 (nz_cons h2 (nz_cons h6 (nz_cons h7 (nz_cons (two_ne _) nz_nil))))) (by kernel_rfl))
          exact ⟨σ, planeSimilar6f_A9, up_eq, (orc_cmp h3 (orc_cmp h8 (orc_cmp h10 (orc_cmp h11 (orc_root h4 (orc_root h9 (orc_ne h0 (orc_ne h1 (orc_ne h2 (orc_ne h5 (orc_ne h6 (orc_ne h7 orc_nil)))))))))))), planeSimilar6f_p9⟩
      · replace h4 := not_ex h4
        by_cases h5 : RE.eval σ (.add (.v 6) (.sub (.v 5) (.v 1))) = RE.eval σ (.add (.v 6) (.sub (.v 5) (.v 5)))
        · have g5 := h5
          replace h5 := cmpR_zero.2 h5
          have h6 := ne_like (likeC (x := (.add (.v 7) (.sub (.v 0) (.v 4)))) (y := (.add (.v 7) (.sub (.v 4) (.v 4)))) (k := (.z 1)) (p := (.v 0)) (q := (.v 4)) (nz := [planeSimilar6f_e5, planeSimilar6f_e12, (.z 2)]) (varsA σ) (nz_cons h1 (nz_cons h2 (nz_cons (two_ne _) nz_nil))) (by kernel_rfl)) (show ((1 : Int) : Rat) ≠ (0 : Rat) from by decide +kernel) h0
          have h7 := ne_like (likeC (x := planeSimilar6f_e21) (y := (.z 0)) (k := (.z 2)) (p := planeSimilar6f_e5) (q := (.z 0)) (nz := [planeSimilar6f_e5, planeSimilar6f_e12, (.z 2)]) (varsA σ) (nz_cons h1 (nz_cons h2 (nz_cons (two_ne _) nz_nil))) (by kernel_rfl)) (show ((2 : Int) : Rat) ≠ (0 : Rat) from by decide +kernel) h1
          have h8 := ne_like (likeC (x := planeSimilar6f_e20) (y := (.z 0)) (k := (.z 1)) (p := planeSimilar6f_e5) (q := (.z 0)) (nz := [planeSimilar6f_e5, planeSimilar6f_e12, planeSimilar6f_e21, (.z 2)]) (varsA σ) (nz_cons h1 (nz_cons h2 (nz_cons h7 (nz_cons (two_ne _) nz_nil)))) (by kernel_rfl)) (show ((1 : Int) : Rat) ≠ (0 : Rat) from by decide +kernel) h1
          have h9 := cmpR_like (likeC (x := planeSimilar6f_e37) (y := (.z 0)) (k := (.z 1)) (p := planeSimilar6f_e15) (q := (.z 0)) (nz := [planeSimilar6f_e5, planeSimilar6f_e12, planeSimilar6f_e21, planeSimilar6f_e20, (.z 2)]) (varsA σ) (nz_cons h1 (nz_cons h2 (nz_cons h7 (nz_cons h8 (nz_cons (two_ne _) nz_nil))))) (by kernel_rfl)) (show (0 : Rat) < ((1 : Int) : Rat) from by decide +kernel) h3
          have h10 := nosq_like (eqC (x := planeSimilar6f_e37) (y := planeSimilar6f_e15) (nz := [planeSimilar6f_e5, planeSimilar6f_e12, planeSimilar6f_e21, planeSimilar6f_e20, (.z 2)]) (varsA σ) (nz_cons h1 (nz_cons h2 (nz_cons h7 (nz_cons h8 (nz_cons (two_ne _) nz_nil))))) (by kernel_rfl)) h4
          exact ⟨σ, planeSimilar6f_A10, up_eq, (orc_cmp h3 (orc_cmp h5 (orc_cmp h9 (orc_noroot h4 (orc_noroot h10 (orc_ne h0 (orc_ne h1 (orc_ne h2 (orc_ne h6 (orc_ne h7 (orc_ne h8 orc_nil))))))))))), planeSimilar6f_p10⟩
        · skip
          have h6 := ne_like (likeC (x := planeSimilar6f_e21) (y := (.z 0)) (k := (.z 2)) (p := planeSimilar6f_e5) (q := (.z 0)) (nz := [planeSimilar6f_e5, planeSimilar6f_e12, (.z 2)]) (varsA σ) (nz_cons h1 (nz_cons h2 (nz_cons (two_ne _) nz_nil))) (by kernel_rfl)) (show ((2 : Int) : Rat) ≠ (0 : Rat) from by decide +kernel) h1
          have h7 := ne_like (likeC (x := planeSimilar6f_e20) (y := (.z 0)) (k := (.z 1)) (p := planeSimilar6f_e5) (q := (.z 0)) (nz := [planeSimilar6f_e5, planeSimilar6f_e12, planeSimilar6f_e21, (.z 2)]) (varsA σ) (nz_cons h1 (nz_cons h2 (nz_cons h6 (nz_cons (two_ne _) nz_nil)))) (by kernel_rfl)) (show ((1 : Int) : Rat) ≠ (0 : Rat) from by decide +kernel) h1
          have h8 := cmpR_like (likeC (x := planeSimilar6f_e37) (y := (.z 0)) (k := (.z 1)) (p := planeSimilar6f_e15) (q := (.z 0)) (nz := [planeSimilar6f_e5, planeSimilar6f_e12, planeSimilar6f_e21, planeSimilar6f_e20, (.z 2)]) (varsA σ) (nz_cons h1 (nz_cons h2 (nz_cons h6 (nz_cons h7 (nz_cons (two_ne _) nz_nil))))) (by kernel_rfl)) (show (0 : Rat) < ((1 : Int) : Rat) from by decide +kernel) h3
          have h9 := nosq_like (eqC (x := planeSimilar6f_e37) (y := planeSimilar6f_e15) (nz := [planeSimilar6f_e5, planeSimilar6f_e12, planeSimilar6f_e21, planeSimilar6f_e20, (.z 2)]) (varsA σ) (nz_cons h1 (nz_cons h2 (nz_cons h6 (nz_cons h7 (nz_cons (two_ne _) nz_nil))))) (by kernel_rfl)) h4
          exact ⟨σ, planeSimilar6f_A11, up_eq, (orc_cmp h3 (orc_cmp h8 (orc_noroot h4 (orc_noroot h9 (orc_ne h0 (orc_ne h1 (orc_ne h2 (orc_ne h5 (orc_ne h6 (orc_ne h7 orc_nil)))))))))), planeSimilar6f_p11⟩
    · skip
      by_cases h4 : ∃ s : Rat, RE.eval σ planeSimilar6f_e15 = s * s
      · replace h4 := up_root h4
        by_cases h5 : RE.eval σ (.add (.v 6) (.sub (.v 5) (.v 1))) = RE.eval σ (.add (.v 6) (.sub (.v 5) (.v 5)))
        · have g5 := h5
          replace h5 := cmpR_zero.2 h5
          have h6 := ne_like (likeC (x := (.add (.v 7) (.sub (.v 0) (.v 4)))) (y := (.add (.v 7) (.sub (.v 4) (.v 4)))) (k := (.z 1)) (p := (.v 0)) (q := (.v 4)) (nz := [planeSimilar6f_e5, planeSimilar6f_e12, planeSimilar6f_e15, (.z 2)]) (varsA σ) (nz_cons h1 (nz_cons h2 (nz_cons (ne_of_cmp h3 rfl) (nz_cons (two_ne _) nz_nil)))) (by kernel_rfl)) (show ((1 : Int) : Rat) ≠ (0 : Rat) from by decide +kernel) h0
          have h7 := ne_like (likeC (x := planeSimilar6f_e21) (y := (.z 0)) (k := (.z 2)) (p := planeSimilar6f_e5) (q := (.z 0)) (nz := [planeSimilar6f_e5, planeSimilar6f_e12, planeSimilar6f_e15, (.z 2)]) (varsA σ) (nz_cons h1 (nz_cons h2 (nz_cons (ne_of_cmp h3 rfl) (nz_cons (two_ne _) nz_nil)))) (by kernel_rfl)) (show ((2 : Int) : Rat) ≠ (0 : Rat) from by decide +kernel) h1
          have h8 := ne_like (likeC (x := planeSimilar6f_e20) (y := (.z 0)) (k := (.z 1)) (p := planeSimilar6f_e5) (q := (.z 0)) (nz := [planeSimilar6f_e5, planeSimilar6f_e12, planeSimilar6f_e15, planeSimilar6f_e21, (.z 2)]) (varsA σ) (nz_cons h1 (nz_cons h2 (nz_cons (ne_of_cmp h3 rfl) (nz_cons h7 (nz_cons (two_ne _) nz_nil))))) (by kernel_rfl)) (show ((1 : Int) : Rat) ≠ (0 : Rat) from by decide +kernel) h1
          have h9 := cmpR_like (likeC (x := planeSimilar6f_e37) (y := (.z 0)) (k := (.z 1)) (p := planeSimilar6f_e15) (q := (.z 0)) (nz := [planeSimilar6f_e5, planeSimilar6f_e12, planeSimilar6f_e15, planeSimilar6f_e21, planeSimilar6f_e20, (.z 2)]) (varsA σ) (nz_cons h1 (nz_cons h2 (nz_cons (ne_of_cmp h3 rfl) (nz_cons h7 (nz_cons h8 (nz_cons (two_ne _) nz_nil)))))) (by kernel_rfl)) (show (0 : Rat) < ((1 : Int) : Rat) from by decide +kernel) h3
          have h10 := sq_like (eqC (x := planeSimilar6f_e37) (y := planeSimilar6f_e15) (nz := [planeSimilar6f_e5, planeSimilar6f_e12, planeSimilar6f_e15, planeSimilar6f_e21, planeSimilar6f_e20, planeSimilar6f_e37, (.z 2)]) (varsA σ) (nz_cons h1 (nz_cons h2 (nz_cons (ne_of_cmp h3 rfl) (nz_cons h7 (nz_cons h8 (nz_cons (ne_of_cmp h9 rfl) (nz_cons (two_ne _) nz_nil))))))) (by kernel_rfl)) h4
          have h11 := cmpR_zero.2 (eqC (x := planeSimilar6f_e43) (y := planeSimilar6f_e48) (nz := [planeSimilar6f_e5, planeSimilar6f_e12, planeSimilar6f_e15, planeSimilar6f_e21, planeSimilar6f_e20, planeSimilar6f_e37, (.z 2)]) (varsA σ) (nz_cons h1 (nz_cons h2 (nz_cons (ne_of_cmp h3 rfl) (nz_cons h7 (nz_cons h8 (nz_cons (ne_of_cmp h9 rfl) (nz_cons (two_ne _) nz_nil))))))) (by kernel_rfl))
          have h12 := cmpR_zero.2 (eqC (x := planeSimilar6f_e54) (y := planeSimilar6f_e58) (nz := [planeSimilar6f_e5, planeSimilar6f_e12, planeSimilar6f_e15, planeSimilar6f_e21, planeSimilar6f_e20, planeSimilar6f_e37, (.z 2)]) (varsA σ) (nz_cons h1 (nz_cons h2 (nz_cons (ne_of_cmp h3 rfl) (nz_cons h7 (nz_cons h8 (nz_cons (ne_of_cmp h9 rfl) (nz_cons (two_ne _) nz_nil))))))) (by kernel_rfl))
          exact ⟨σ, planeSimilar6f_A12, up_eq, (orc_cmp h3 (orc_cmp h5 (orc_cmp h9 (orc_cmp h11 (orc_cmp h12 (orc_root h4 (orc_root h10 (orc_ne h0 (orc_ne h1 (orc_ne h2 (orc_ne h6 (orc_ne h7 (orc_ne h8 orc_nil))))))))))))), planeSimilar6f_p12⟩
        · skip
          have h6 := ne_like (likeC (x := planeSimilar6f_e21) (y := (.z 0)) (k := (.z 2)) (p := planeSimilar6f_e5) (q := (.z 0)) (nz := [planeSimilar6f_e5, planeSimilar6f_e12, planeSimilar6f_e15, (.z 2)]) (varsA σ) (nz_cons h1 (nz_cons h2 (nz_cons (ne_of_cmp h3 rfl) (nz_cons (two_ne _) nz_nil)))) (by kernel_rfl)) (show ((2 : Int) : Rat) ≠ (0 : Rat) from by decide +kernel) h1
          have h7 := ne_like (likeC (x := planeSimilar6f_e20) (y := (.z 0)) (k := (.z 1)) (p := planeSimilar6f_e5) (q := (.z 0)) (nz := [planeSimilar6f_e5, planeSimilar6f_e12, planeSimilar6f_e15, planeSimilar6f_e21, (.z 2)]) (varsA σ) (nz_cons h1 (nz_cons h2 (nz_cons (ne_of_cmp h3 rfl) (nz_cons h6 (nz_cons (two_ne _) nz_nil))))) (by kernel_rfl)) (show ((1 : Int) : Rat) ≠ (0 : Rat) from by decide +kernel) h1
          have h8 := cmpR_like (likeC (x := planeSimilar6f_e37) (y := (.z 0)) (k := (.z 1)) (p := planeSimilar6f_e15) (q := (.z 0)) (nz := [planeSimilar6f_e5, planeSimilar6f_e12, planeSimilar6f_e15, planeSimilar6f_e21, planeSimilar6f_e20, (.z 2)]) (varsA σ) (nz_cons h1 (nz_cons h2 (nz_cons (ne_of_cmp h3 rfl) (nz_cons h6 (nz_cons h7 (nz_cons (two_ne _) nz_nil)))))) (by kernel_rfl)) (show (0 : Rat) < ((1 : Int) : Rat) from by decide +kernel) h3
          have h9 := sq_like (eqC (x := planeSimilar6f_e37) (y := planeSimilar6f_e15) (nz := [planeSimilar6f_e5, planeSimilar6f_e12, planeSimilar6f_e15, planeSimilar6f_e21, planeSimilar6f_e20, planeSimilar6f_e37, (.z 2)]) (varsA σ) (nz_cons h1 (nz_cons h2 (nz_cons (ne_of_cmp h3 rfl) (nz_cons h6 (nz_cons h7 (nz_cons (ne_of_cmp h8 rfl) (nz_cons (two_ne _) nz_nil))))))) (by kernel_rfl)) h4
          have h10 := cmpR_zero.2 (eqC (x := planeSimilar6f_e43) (y := planeSimilar6f_e48) (nz := [planeSimilar6f_e5, planeSimilar6f_e12, planeSimilar6f_e15, planeSimilar6f_e21, planeSimilar6f_e20, planeSimilar6f_e37, (.z 2)]) (varsA σ) (nz_cons h1 (nz_cons h2 (nz_cons (ne_of_cmp h3 rfl) (nz_cons h6 (nz_cons h7 (nz_cons (ne_of_cmp h8 rfl) (nz_cons (two_ne _) nz_nil))))))) (by kernel_rfl))
          have h11 := cmpR_zero.2 (eqC (x := planeSimilar6f_e54) (y := planeSimilar6f_e58) (nz := [planeSimilar6f_e5, planeSimilar6f_e12, planeSimilar6f_e15, planeSimilar6f_e21, planeSimilar6f_e20, planeSimilar6f_e37, (.z 2)]) (varsA σ) (nz_cons h1 (nz_cons h2 (nz_cons (ne_of_cmp h3 rfl) (nz_cons h6 (nz_cons h7 (nz_cons (ne_of_cmp h8 rfl) (nz_cons (two_ne _) nz_nil))))))) (by kernel_rfl))
          exact ⟨σ, planeSimilar6f_A13, up_eq, (orc_cmp h3 (orc_cmp h8 (orc_cmp h10 (orc_cmp h11 (orc_root h4 (orc_root h9 (orc_ne h0 (orc_ne h1 (orc_ne h2 (orc_ne h5 (orc_ne h6 (orc_ne h7 orc_nil)))))))))))), planeSimilar6f_p13⟩
      · replace h4 := not_ex h4
        by_cases h5 : RE.eval σ (.add (.v 6) (.sub (.v 5) (.v 1))) = RE.eval σ (.add (.v 6) (.sub (.v 5) (.v 5)))
        · have g5 := h5
          replace h5 := cmpR_zero.2 h5
          have h6 := ne_like (likeC (x := (.add (.v 7) (.sub (.v 0) (.v 4)))) (y := (.add (.v 7) (.sub (.v 4) (.v 4)))) (k := (.z 1)) (p := (.v 0)) (q := (.v 4)) (nz := [planeSimilar6f_e5, planeSimilar6f_e12, planeSimilar6f_e15, (.z 2)]) (varsA σ) (nz_cons h1 (nz_cons h2 (nz_cons (ne_of_cmp h3 rfl) (nz_cons (two_ne _) nz_nil)))) (by kernel_rfl)) (show ((1 : Int) : Rat) ≠ (0 : Rat) from by decide +kernel) h0
          have h7 := ne_like (likeC (x := planeSimilar6f_e21) (y := (.z 0)) (k := (.z 2)) (p := planeSimilar6f_e5) (q := (.z 0)) (nz := [planeSimilar6f_e5, planeSimilar6f_e12, planeSimilar6f_e15, (.z 2)]) (varsA σ) (nz_cons h1 (nz_cons h2 (nz_cons (ne_of_cmp h3 rfl) (nz_cons (two_ne _) nz_nil)))) (by kernel_rfl)) (show ((2 : Int) : Rat) ≠ (0 : Rat) from by decide +kernel) h1
          have h8 := ne_like (likeC (x := planeSimilar6f_e20) (y := (.z 0)) (k := (.z 1)) (p := planeSimilar6f_e5) (q := (.z 0)) (nz := [planeSimilar6f_e5, planeSimilar6f_e12, planeSimilar6f_e15, planeSimilar6f_e21, (.z 2)]) (varsA σ) (nz_cons h1 (nz_cons h2 (nz_cons (ne_of_cmp h3 rfl) (nz_cons h7 (nz_cons (two_ne _) nz_nil))))) (by kernel_rfl)) (show ((1 : Int) : Rat) ≠ (0 : Rat) from by decide +kernel) h1
          have h9 := cmpR_like (likeC (x := planeSimilar6f_e37) (y := (.z 0)) (k := (.z 1)) (p := planeSimilar6f_e15) (q := (.z 0)) (nz := [planeSimilar6f_e5, planeSimilar6f_e12, planeSimilar6f_e15, planeSimilar6f_e21, planeSimilar6f_e20, (.z 2)]) (varsA σ) (nz_cons h1 (nz_cons h2 (nz_cons (ne_of_cmp h3 rfl) (nz_cons h7 (nz_cons h8 (nz_cons (two_ne _) nz_nil)))))) (by kernel_rfl)) (show (0 : Rat) < ((1 : Int) : Rat) from by decide +kernel) h3
          have h10 := nosq_like (eqC (x := planeSimilar6f_e37) (y := planeSimilar6f_e15) (nz := [planeSimilar6f_e5, planeSimilar6f_e12, planeSimilar6f_e15, planeSimilar6f_e21, planeSimilar6f_e20, planeSimilar6f_e37, (.z 2)]) (varsA σ) (nz_cons h1 (nz_cons h2 (nz_cons (ne_of_cmp h3 rfl) (nz_cons h7 (nz_cons h8 (nz_cons (ne_of_cmp h9 rfl) (nz_cons (two_ne _) nz_nil))))))) (by kernel_rfl)) h4
          exact ⟨σ, planeSimilar6f_A14, up_eq, (orc_cmp h3 (orc_cmp h5 (orc_cmp h9 (orc_noroot h4 (orc_noroot h10 (orc_ne h0 (orc_ne h1 (orc_ne h2 (orc_ne h6 (orc_ne h7 (orc_ne h8 orc_nil))))))))))), planeSimilar6f_p14⟩
        · skip
          have h6 := ne_like (likeC (x := planeSimilar6f_e21) (y := (.z 0)) (k := (.z 2)) (p := planeSimilar6f_e5) (q := (.z 0)) (nz := [planeSimilar6f_e5, planeSimilar6f_e12, planeSimilar6f_e15, (.z 2)]) (varsA σ) (nz_cons h1 (nz_cons h2 (nz_cons (ne_of_cmp h3 rfl) (nz_cons (two_ne _) nz_nil)))) (by kernel_rfl)) (show ((2 : Int) : Rat) ≠ (0 : Rat) from by decide +kernel) h1
          have h7 := ne_like (likeC (x := planeSimilar6f_e20) (y := (.z 0)) (k := (.z 1)) (p := planeSimilar6f_e5) (q := (.z 0)) (nz := [planeSimilar6f_e5, planeSimilar6f_e12, planeSimilar6f_e15, planeSimilar6f_e21, (.z 2)]) (varsA σ) (nz_cons h1 (nz_cons h2 (nz_cons (ne_of_cmp h3 rfl) (nz_cons h6 (nz_cons (two_ne _) nz_nil))))) (by kernel_rfl)) (show ((1 : Int) : Rat) ≠ (0 : Rat) from by decide +kernel) h1
          have h8 := cmpR_like (likeC (x := planeSimilar6f_e37) (y := (.z 0)) (k := (.z 1)) (p := planeSimilar6f_e15) (q := (.z 0)) (nz := [planeSimilar6f_e5, planeSimilar6f_e12, planeSimilar6f_e15, planeSimilar6f_e21, planeSimilar6f_e20, (.z 2)]) (varsA σ) (nz_cons h1 (nz_cons h2 (nz_cons (ne_of_cmp h3 rfl) (nz_cons h6 (nz_cons h7 (nz_cons (two_ne _) nz_nil)))))) (by kernel_rfl)) (show (0 : Rat) < ((1 : Int) : Rat) from by decide +kernel) h3
          have h9 := nosq_like (eqC (x := planeSimilar6f_e37) (y := planeSimilar6f_e15) (nz := [planeSimilar6f_e5, planeSimilar6f_e12, planeSimilar6f_e15, planeSimilar6f_e21, planeSimilar6f_e20, planeSimilar6f_e37, (.z 2)]) (varsA σ) (nz_cons h1 (nz_cons h2 (nz_cons (ne_of_cmp h3 rfl) (nz_cons h6 (nz_cons h7 (nz_cons (ne_of_cmp h8 rfl) (nz_cons (two_ne _) nz_nil))))))) (by kernel_rfl)) h4
          exact ⟨σ, planeSimilar6f_A15, up_eq, (orc_cmp h3 (orc_cmp h8 (orc_noroot h4 (orc_noroot h9 (orc_ne h0 (orc_ne h1 (orc_ne h2 (orc_ne h5 (orc_ne h6 (orc_ne h7 orc_nil)))))))))), planeSimilar6f_p15⟩

def planeSimilar6t_e0 : RE := .mul (.sub (.v 2) (.v 0)) (.sub (.v 2) (.v 0))
def planeSimilar6t_e1 : RE := .mul (.sub (.v 3) (.v 1)) (.sub (.v 3) (.v 1))
def planeSimilar6t_e2 : RE := .add planeSimilar6t_e0 planeSimilar6t_e1
def planeSimilar6t_e3 : RE := .mul (.sub (.v 4) (.v 0)) (.sub (.v 4) (.v 0))
def planeSimilar6t_e4 : RE := .mul (.sub (.v 5) (.v 1)) (.sub (.v 5) (.v 1))
def planeSimilar6t_e5 : RE := .add planeSimilar6t_e3 planeSimilar6t_e4
def planeSimilar6t_e6 : RE := .div planeSimilar6t_e2 planeSimilar6t_e5
def planeSimilar6t_e7 : RE := .add planeSimilar6t_e2 planeSimilar6t_e5
def planeSimilar6t_e8 : RE := .mul (.sub (.v 6) (.v 4)) (.sub (.v 6) (.v 4))
def planeSimilar6t_e9 : RE := .mul (.sub (.v 7) (.v 5)) (.sub (.v 7) (.v 5))
def planeSimilar6t_e10 : RE := .add planeSimilar6t_e8 planeSimilar6t_e9
def planeSimilar6t_e11 : RE := .sub planeSimilar6t_e7 planeSimilar6t_e10
def planeSimilar6t_e12 : RE := .mul (.z 2) planeSimilar6t_e5
def planeSimilar6t_e13 : RE := .div planeSimilar6t_e11 planeSimilar6t_e12
def planeSimilar6t_e14 : RE := .mul planeSimilar6t_e13 planeSimilar6t_e13
def planeSimilar6t_e15 : RE := .sub planeSimilar6t_e6 planeSimilar6t_e14
def planeSimilar6t_e16 : RE := .sub (.add (.v 6) (.sub (.v 5) (.v 5))) (.add (.v 6) (.sub (.v 5) (.v 1)))
def planeSimilar6t_e17 : RE := .mul planeSimilar6t_e16 planeSimilar6t_e16
def planeSimilar6t_e18 : RE := .sub (.add (.v 7) (.sub (.v 4) (.v 4))) (.add (.v 7) (.sub (.v 0) (.v 4)))
def planeSimilar6t_e19 : RE := .mul planeSimilar6t_e18 planeSimilar6t_e18
def planeSimilar6t_e20 : RE := .add planeSimilar6t_e17 planeSimilar6t_e19
def planeSimilar6t_e21 : RE := .mul (.z 2) planeSimilar6t_e20
def planeSimilar6t_e22 : RE := .sub (.add (.v 6) (.sub (.v 5) (.v 3))) (.add (.v 6) (.sub (.v 5) (.v 1)))
def planeSimilar6t_e23 : RE := .mul planeSimilar6t_e22 planeSimilar6t_e22
def planeSimilar6t_e24 : RE := .sub (.add (.v 7) (.sub (.v 2) (.v 4))) (.add (.v 7) (.sub (.v 0) (.v 4)))
def planeSimilar6t_e25 : RE := .mul planeSimilar6t_e24 planeSimilar6t_e24
def planeSimilar6t_e26 : RE := .add planeSimilar6t_e23 planeSimilar6t_e25
def planeSimilar6t_e27 : RE := .div planeSimilar6t_e26 planeSimilar6t_e20
def planeSimilar6t_e28 : RE := .add planeSimilar6t_e26 planeSimilar6t_e20
def planeSimilar6t_e29 : RE := .sub (.add (.v 6) (.sub (.v 5) (.v 7))) (.add (.v 6) (.sub (.v 5) (.v 5)))
def planeSimilar6t_e30 : RE := .mul planeSimilar6t_e29 planeSimilar6t_e29
def planeSimilar6t_e31 : RE := .sub (.add (.v 7) (.sub (.v 6) (.v 4))) (.add (.v 7) (.sub (.v 4) (.v 4)))
def planeSimilar6t_e32 : RE := .mul planeSimilar6t_e31 planeSimilar6t_e31
def planeSimilar6t_e33 : RE := .add planeSimilar6t_e30 planeSimilar6t_e32
def planeSimilar6t_e34 : RE := .sub planeSimilar6t_e28 planeSimilar6t_e33
def planeSimilar6t_e35 : RE := .div planeSimilar6t_e34 planeSimilar6t_e21
def planeSimilar6t_e36 : RE := .mul planeSimilar6t_e35 planeSimilar6t_e35
def planeSimilar6t_e37 : RE := .sub planeSimilar6t_e27 planeSimilar6t_e36
def planeSimilar6t_e38 : RE := .mul (.sub (.v 5) (.v 1)) planeSimilar6t_e13
def planeSimilar6t_e39 : RE := .add (.v 1) planeSimilar6t_e38
def planeSimilar6t_e40 : RE := .add planeSimilar6t_e39 (.mul (.v 9) (.sub (.v 4) (.v 0)))
def planeSimilar6t_e41 : RE := .sub (.v 5) planeSimilar6t_e40
def planeSimilar6t_e42 : RE := .add (.v 6) planeSimilar6t_e41
def planeSimilar6t_e43 : RE := .mul planeSimilar6t_e16 planeSimilar6t_e35
def planeSimilar6t_e44 : RE := .add (.add (.v 6) (.sub (.v 5) (.v 1))) planeSimilar6t_e43
def planeSimilar6t_e45 : RE := .sub (.add (.v 7) (.sub (.v 0) (.v 4))) (.add (.v 7) (.sub (.v 4) (.v 4)))
def planeSimilar6t_e46 : RE := .mul (.v 9) planeSimilar6t_e45
def planeSimilar6t_e47 : RE := .add planeSimilar6t_e44 planeSimilar6t_e46
def planeSimilar6t_e48 : RE := .mul (.sub (.v 4) (.v 0)) planeSimilar6t_e13
def planeSimilar6t_e49 : RE := .add (.v 0) planeSimilar6t_e48
def planeSimilar6t_e50 : RE := .add planeSimilar6t_e49 (.mul (.v 9) (.sub (.v 1) (.v 5)))
def planeSimilar6t_e51 : RE := .sub planeSimilar6t_e50 (.v 4)
def planeSimilar6t_e52 : RE := .add (.v 7) planeSimilar6t_e51
def planeSimilar6t_e53 : RE := .mul planeSimilar6t_e18 planeSimilar6t_e35
def planeSimilar6t_e54 : RE := .add (.add (.v 7) (.sub (.v 0) (.v 4))) planeSimilar6t_e53
def planeSimilar6t_e55 : RE := .mul (.v 9) planeSimilar6t_e16
def planeSimilar6t_e56 : RE := .add planeSimilar6t_e54 planeSimilar6t_e55
def planeSimilar6t_A0 : Orc := { cmp := [((.v 0), (.v 4), 0), ((.v 1), (.v 5), 0), ((.add (.v 6) (.sub (.v 5) (.v 1))), (.add (.v 6) (.sub (.v 5) (.v 5))), 0), ((.add (.v 7) (.sub (.v 0) (.v 4))), (.add (.v 7) (.sub (.v 4) (.v 4))), 0)] }
theorem planeSimilar6t_p0  : (acode Tryz.prog (ctrA planeSimilar6t_A0) 20 (restN 3 (restN 3 (restN 3 (restN 3 (restN 3 (restN 4 planeSimilar_c)))))) (planeSimilar_k5 true).vn 241).map (fin Tryz.f10) = yesF := by kernel_rfl
def planeSimilar6t_A1 : Orc := { cmp := [((.v 0), (.v 4), 0), (planeSimilar6t_e15, (.z 0), -1), (planeSimilar6t_e37, (.z 0), -1)], ne := [((.v 1), (.v 5)), (planeSimilar6t_e5, (.z 0)), (planeSimilar6t_e12, (.z 0)), ((.add (.v 6) (.sub (.v 5) (.v 1))), (.add (.v 6) (.sub (.v 5) (.v 5)))), (planeSimilar6t_e21, (.z 0)), (planeSimilar6t_e20, (.z 0))] }
theorem planeSimilar6t_p1  : (acode Tryz.prog (ctrA planeSimilar6t_A1) 20 (restN 3 (restN 3 (restN 3 (restN 3 (restN 3 (restN 4 planeSimilar_c)))))) (planeSimilar_k5 true).vn 241).map (fin Tryz.f10) = yesF := by kernel_rfl
def planeSimilar6t_A2 : Orc := { cmp := [((.v 0), (.v 4), 0), (planeSimilar6t_e15, (.z 0), 0), (planeSimilar6t_e37, (.z 0), 0), (planeSimilar6t_e42, planeSimilar6t_e47, 0), (planeSimilar6t_e52, planeSimilar6t_e56, 0)], sq := [(planeSimilar6t_e15, some (.v 9)), (planeSimilar6t_e37, some (.v 9))], ne := [((.v 1), (.v 5)), (planeSimilar6t_e5, (.z 0)), (planeSimilar6t_e12, (.z 0)), ((.add (.v 6) (.sub (.v 5) (.v 1))), (.add (.v 6) (.sub (.v 5) (.v 5)))), (planeSimilar6t_e21, (.z 0)), (planeSimilar6t_e20, (.z 0))] }
theorem planeSimilar6t_p2  : (acode Tryz.prog (ctrA planeSimilar6t_A2) 20 (restN 3 (restN 3 (restN 3 (restN 3 (restN 3 (restN 4 planeSimilar_c)))))) (planeSimilar_k5 true).vn 241).map (fin Tryz.f10) = yesF := by kernel_rfl
def planeSimilar6t_A3 : Orc := { cmp := [((.v 0), (.v 4), 0), (planeSimilar6t_e15, (.z 0), 0), (planeSimilar6t_e37, (.z 0), 0)], sq := [(planeSimilar6t_e15, none), (planeSimilar6t_e37, none)], ne := [((.v 1), (.v 5)), (planeSimilar6t_e5, (.z 0)), (planeSimilar6t_e12, (.z 0)), ((.add (.v 6) (.sub (.v 5) (.v 1))), (.add (.v 6) (.sub (.v 5) (.v 5)))), (planeSimilar6t_e21, (.z 0)), (planeSimilar6t_e20, (.z 0))] }
theorem planeSimilar6t_p3  : (acode Tryz.prog (ctrA planeSimilar6t_A3) 20 (restN 3 (restN 3 (restN 3 (restN 3 (restN 3 (restN 4 planeSimilar_c)))))) (planeSimilar_k5 true).vn 241).map (fin Tryz.f10) = yesF := by kernel_rfl
def planeSimilar6t_A4 : Orc := { cmp := [((.v 0), (.v 4), 0), (planeSimilar6t_e15, (.z 0), 1), (planeSimilar6t_e37, (.z 0), 1), (planeSimilar6t_e42, planeSimilar6t_e47, 0), (planeSimilar6t_e52, planeSimilar6t_e56, 0)], sq := [(planeSimilar6t_e15, some (.v 9)), (planeSimilar6t_e37, some (.v 9))], ne := [((.v 1), (.v 5)), (planeSimilar6t_e5, (.z 0)), (planeSimilar6t_e12, (.z 0)), ((.add (.v 6) (.sub (.v 5) (.v 1))), (.add (.v 6) (.sub (.v 5) (.v 5)))), (planeSimilar6t_e21, (.z 0)), (planeSimilar6t_e20, (.z 0))] }
theorem planeSimilar6t_p4  : (acode Tryz.prog (ctrA planeSimilar6t_A4) 20 (restN 3 (restN 3 (restN 3 (restN 3 (restN 3 (restN 4 planeSimilar_c)))))) (planeSimilar_k5 true).vn 241).map (fin Tryz.f10) = yesF := by kernel_rfl
def planeSimilar6t_A5 : Orc := { cmp := [((.v 0), (.v 4), 0), (planeSimilar6t_e15, (.z 0), 1), (planeSimilar6t_e37, (.z 0), 1)], sq := [(planeSimilar6t_e15, none), (planeSimilar6t_e37, none)], ne := [((.v 1), (.v 5)), (planeSimilar6t_e5, (.z 0)), (planeSimilar6t_e12, (.z 0)), ((.add (.v 6) (.sub (.v 5) (.v 1))), (.add (.v 6) (.sub (.v 5) (.v 5)))), (planeSimilar6t_e21, (.z 0)), (planeSimilar6t_e20, (.z 0))] }
theorem planeSimilar6t_p5  : (acode Tryz.prog (ctrA planeSimilar6t_A5) 20 (restN 3 (restN 3 (restN 3 (restN 3 (restN 3 (restN 4 planeSimilar_c)))))) (planeSimilar_k5 true).vn 241).map (fin Tryz.f10) = yesF := by kernel_rfl
def planeSimilar6t_A6 : Orc := { cmp := [(planeSimilar6t_e15, (.z 0), -1), ((.add (.v 6) (.sub (.v 5) (.v 1))), (.add (.v 6) (.sub (.v 5) (.v 5))), 0), (planeSimilar6t_e37, (.z 0), -1)], ne := [((.v 0), (.v 4)), (planeSimilar6t_e5, (.z 0)), (planeSimilar6t_e12, (.z 0)), ((.add (.v 7) (.sub (.v 0) (.v 4))), (.add (.v 7) (.sub (.v 4) (.v 4)))), (planeSimilar6t_e21, (.z 0)), (planeSimilar6t_e20, (.z 0))] }
theorem planeSimilar6t_p6  : (acode Tryz.prog (ctrA planeSimilar6t_A6) 20 (restN 3 (restN 3 (restN 3 (restN 3 (restN 3 (restN 4 planeSimilar_c)))))) (planeSimilar_k5 true).vn 241).map (fin Tryz.f10) = yesF := by kernel_rfl
def planeSimilar6t_A7 : Orc := { cmp := [(planeSimilar6t_e15, (.z 0), -1), (planeSimilar6t_e37, (.z 0), -1)], ne := [((.v 0), (.v 4)), (planeSimilar6t_e5, (.z 0)), (planeSimilar6t_e12, (.z 0)), ((.add (.v 6) (.sub (.v 5) (.v 1))), (.add (.v 6) (.sub (.v 5) (.v 5)))), (planeSimilar6t_e21, (.z 0)), (planeSimilar6t_e20, (.z 0))] }
theorem planeSimilar6t_p7  : (acode Tryz.prog (ctrA planeSimilar6t_A7) 20 (restN 3 (restN 3 (restN 3 (restN 3 (restN 3 (restN 4 planeSimilar_c)))))) (planeSimilar_k5 true).vn 241).map (fin Tryz.f10) = yesF := by kernel_rfl
def planeSimilar6t_A8 : Orc := { cmp := [(planeSimilar6t_e15, (.z 0), 0), ((.add (.v 6) (.sub (.v 5) (.v 1))), (.add (.v 6) (.sub (.v 5) (.v 5))), 0), (planeSimilar6t_e37, (.z 0), 0), (planeSimilar6t_e42, planeSimilar6t_e47, 0), (planeSimilar6t_e52, planeSimilar6t_e56, 0)], sq := [(planeSimilar6t_e15, some (.v 9)), (planeSimilar6t_e37, some (.v 9))], ne := [((.v 0), (.v 4)), (planeSimilar6t_e5, (.z 0)), (planeSimilar6t_e12, (.z 0)), ((.add (.v 7) (.sub (.v 0) (.v 4))), (.add (.v 7) (.sub (.v 4) (.v 4)))), (planeSimilar6t_e21, (.z 0)), (planeSimilar6t_e20, (.z 0))] }
theorem planeSimilar6t_p8  : (acode Tryz.prog (ctrA planeSimilar6t_A8) 20 (restN 3 (restN 3 (restN 3 (restN 3 (restN 3 (restN 4 planeSimilar_c)))))) (planeSimilar_k5 true).vn 241).map (fin Tryz.f10) = yesF := by kernel_rfl
def planeSimilar6t_A9 : Orc := { cmp := [(planeSimilar6t_e15, (.z 0), 0), (planeSimilar6t_e37, (.z 0), 0), (planeSimilar6t_e42, planeSimilar6t_e47, 0), (planeSimilar6t_e52, planeSimilar6t_e56, 0)], sq := [(planeSimilar6t_e15, some (.v 9)), (planeSimilar6t_e37, some (.v 9))], ne := [((.v 0), (.v 4)), (planeSimilar6t_e5, (.z 0)), (planeSimilar6t_e12, (.z 0)), ((.add (.v 6) (.sub (.v 5) (.v 1))), (.add (.v 6) (.sub (.v 5) (.v 5)))), (planeSimilar6t_e21, (.z 0)), (planeSimilar6t_e20, (.z 0))] }
theorem planeSimilar6t_p9  : (acode Tryz.prog (ctrA planeSimilar6t_A9) 20 (restN 3 (restN 3 (restN 3 (restN 3 (restN 3 (restN 4 planeSimilar_c)))))) (planeSimilar_k5 true).vn 241).map (fin Tryz.f10) = yesF := by kernel_rfl
def planeSimilar6t_A10 : Orc := { cmp := [(planeSimilar6t_e15, (.z 0), 0), ((.add (.v 6) (.sub (.v 5) (.v 1))), (.add (.v 6) (.sub (.v 5) (.v 5))), 0), (planeSimilar6t_e37, (.z 0), 0)], sq := [(planeSimilar6t_e15, none), (planeSimilar6t_e37, none)], ne := [((.v 0), (.v 4)), (planeSimilar6t_e5, (.z 0)), (planeSimilar6t_e12, (.z 0)), ((.add (.v 7) (.sub (.v 0) (.v 4))), (.add (.v 7) (.sub (.v 4) (.v 4)))), (planeSimilar6t_e21, (.z 0)), (planeSimilar6t_e20, (.z 0))] }
theorem planeSimilar6t_p10  : (acode Tryz.prog (ctrA planeSimilar6t_A10) 20 (restN 3 (restN 3 (restN 3 (restN 3 (restN 3 (restN 4 planeSimilar_c)))))) (planeSimilar_k5 true).vn 241).map (fin Tryz.f10) = yesF := by kernel_rfl
def planeSimilar6t_A11 : Orc := { cmp := [(planeSimilar6t_e15, (.z 0), 0), (planeSimilar6t_e37, (.z 0), 0)], sq := [(planeSimilar6t_e15, none), (planeSimilar6t_e37, none)], ne := [((.v 0), (.v 4)), (planeSimilar6t_e5, (.z 0)), (planeSimilar6t_e12, (.z 0)), ((.add (.v 6) (.sub (.v 5) (.v 1))), (.add (.v 6) (.sub (.v 5) (.v 5)))), (planeSimilar6t_e21, (.z 0)), (planeSimilar6t_e20, (.z 0))] }
theorem planeSimilar6t_p11  : (acode Tryz.prog (ctrA planeSimilar6t_A11) 20 (restN 3 (restN 3 (restN 3 (restN 3 (restN 3 (restN 4 planeSimilar_c)))))) (planeSimilar_k5 true).vn 241).map (fin Tryz.f10) = yesF := by kernel_rfl
def planeSimilar6t_A12 : Orc := { cmp := [(planeSimilar6t_e15, (.z 0), 1), ((.add (.v 6) (.sub (.v 5) (.v 1))), (.add (.v 6) (.sub (.v 5) (.v 5))), 0), (planeSimilar6t_e37, (.z 0), 1), (planeSimilar6t_e42, planeSimilar6t_e47, 0), (planeSimilar6t_e52, planeSimilar6t_e56, 0)], sq := [(planeSimilar6t_e15, some (.v 9)), (planeSimilar6t_e37, some (.v 9))], ne := [((.v 0), (.v 4)), (planeSimilar6t_e5, (.z 0)), (planeSimilar6t_e12, (.z 0)), ((.add (.v 7) (.sub (.v 0) (.v 4))), (.add (.v 7) (.sub (.v 4) (.v 4)))), (planeSimilar6t_e21, (.z 0)), (planeSimilar6t_e20, (.z 0))] }
theorem planeSimilar6t_p12  : (acode Tryz.prog (ctrA planeSimilar6t_A12) 20 (restN 3 (restN 3 (restN 3 (restN 3 (restN 3 (restN 4 planeSimilar_c)))))) (planeSimilar_k5 true).vn 241).map (fin Tryz.f10) = yesF := by kernel_rfl
def planeSimilar6t_A13 : Orc := { cmp := [(planeSimilar6t_e15, (.z 0), 1), (planeSimilar6t_e37, (.z 0), 1), (planeSimilar6t_e42, planeSimilar6t_e47, 0), (planeSimilar6t_e52, planeSimilar6t_e56, 0)], sq := [(planeSimilar6t_e15, some (.v 9)), (planeSimilar6t_e37, some (.v 9))], ne := [((.v 0), (.v 4)), (planeSimilar6t_e5, (.z 0)), (planeSimilar6t_e12, (.z 0)), ((.add (.v 6) (.sub (.v 5) (.v 1))), (.add (.v 6) (.sub (.v 5) (.v 5)))), (planeSimilar6t_e21, (.z 0)), (planeSimilar6t_e20, (.z 0))] }
theorem planeSimilar6t_p13  : (acode Tryz.prog (ctrA planeSimilar6t_A13) 20 (restN 3 (restN 3 (restN 3 (restN 3 (restN 3 (restN 4 planeSimilar_c)))))) (planeSimilar_k5 true).vn 241).map (fin Tryz.f10) = yesF := by kernel_rfl
def planeSimilar6t_A14 : Orc := { cmp := [(planeSimilar6t_e15, (.z 0), 1), ((.add (.v 6) (.sub (.v 5) (.v 1))), (.add (.v 6) (.sub (.v 5) (.v 5))), 0), (planeSimilar6t_e37, (.z 0), 1)], sq := [(planeSimilar6t_e15, none), (planeSimilar6t_e37, none)], ne := [((.v 0), (.v 4)), (planeSimilar6t_e5, (.z 0)), (planeSimilar6t_e12, (.z 0)), ((.add (.v 7) (.sub (.v 0) (.v 4))), (.add (.v 7) (.sub (.v 4) (.v 4)))), (planeSimilar6t_e21, (.z 0)), (planeSimilar6t_e20, (.z 0))] }
theorem planeSimilar6t_p14  : (acode Tryz.prog (ctrA planeSimilar6t_A14) 20 (restN 3 (restN 3 (restN 3 (restN 3 (restN 3 (restN 4 planeSimilar_c)))))) (planeSimilar_k5 true).vn 241).map (fin Tryz.f10) = yesF := by kernel_rfl
def planeSimilar6t_A15 : Orc := { cmp := [(planeSimilar6t_e15, (.z 0), 1), (planeSimilar6t_e37, (.z 0), 1)], sq := [(planeSimilar6t_e15, none), (planeSimilar6t_e37, none)], ne := [((.v 0), (.v 4)), (planeSimilar6t_e5, (.z 0)), (planeSimilar6t_e12, (.z 0)), ((.add (.v 6) (.sub (.v 5) (.v 1))), (.add (.v 6) (.sub (.v 5) (.v 5)))), (planeSimilar6t_e21, (.z 0)), (planeSimilar6t_e20, (.z 0))] }
theorem planeSimilar6t_p15  : (acode Tryz.prog (ctrA planeSimilar6t_A15) 20 (restN 3 (restN 3 (restN 3 (restN 3 (restN 3 (restN 4 planeSimilar_c)))))) (planeSimilar_k5 true).vn 241).map (fin Tryz.f10) = yesF := by kernel_rfl
theorem planeSimilar6t_dec (ρ : Nat → Rat)  : ∃ (ρ' : Nat → Rat) (A : Orc), (∀ k, k < 9 → ρ' k = ρ k) ∧ A.OK ρ' ∧ (acode Tryz.prog (ctrA A) 20 (restN 3 (restN 3 (restN 3 (restN 3 (restN 3 (restN 4 planeSimilar_c)))))) (planeSimilar_k5 true).vn 241).map (fin Tryz.f10) = yesF := by
  refine ex_up ρ planeSimilar6t_e15 (by kernel_rfl) fun σ up_eq up_root => ?_
  by_cases h0 : RE.eval σ (.v 0) = RE.eval σ (.v 4)
  · have g0 := h0
    replace h0 := cmpR_zero.2 h0
    by_cases h1 : RE.eval σ (.v 1) = RE.eval σ (.v 5)
    · have g1 := h1
      replace h1 := cmpR_zero.2 h1
      have h2 := cmpR_zero.2 (eqC (x := (.add (.v 6) (.sub (.v 5) (.v 1)))) (y := (.add (.v 6) (.sub (.v 5) (.v 5)))) (nz := [(.z 2)]) (varsA_4_5 σ g0.symm g1.symm) (nz_cons (two_ne _) nz_nil) (by kernel_rfl))
      have h3 := cmpR_zero.2 (eqC (x := (.add (.v 7) (.sub (.v 0) (.v 4)))) (y := (.add (.v 7) (.sub (.v 4) (.v 4)))) (nz := [(.z 2)]) (varsA_4_5 σ g0.symm g1.symm) (nz_cons (two_ne _) nz_nil) (by kernel_rfl))
      exact ⟨σ, planeSimilar6t_A0, up_eq, (orc_cmp h0 (orc_cmp h1 (orc_cmp h2 (orc_cmp h3 orc_nil)))), planeSimilar6t_p0⟩
    · skip
      have h2 := normC (b := planeSimilar6t_e5) (x := (.v 1)) (y := (.v 5)) (f := (.sub (.v 4) (.v 0))) (nz := [(.z 2)]) (varsA_4 σ g0.symm) (nz_cons (two_ne _) nz_nil) (by kernel_rfl) h1
      have h3 := ne_like (likeC (x := planeSimilar6t_e12) (y := (.z 0)) (k := (.z 2)) (p := planeSimilar6t_e5) (q := (.z 0)) (nz := [planeSimilar6t_e5, (.z 2)]) (varsA_4 σ g0.symm) (nz_cons h2 (nz_cons (two_ne _) nz_nil)) (by kernel_rfl)) (show ((2 : Int) : Rat) ≠ (0 : Rat) from by decide +kernel) h2
      rcases cmpR_bound (RE.eval σ planeSimilar6t_e15) (RE.eval σ (.z 0)) with h4 | h4 | h4
      · skip
        have h5 := ne_like (likeC (x := (.add (.v 6) (.sub (.v 5) (.v 1)))) (y := (.add (.v 6) (.sub (.v 5) (.v 5)))) (k := (.z (-1))) (p := (.v 1)) (q := (.v 5)) (nz := [planeSimilar6t_e5, planeSimilar6t_e12, planeSimilar6t_e15, (.z 2)]) (varsA_4 σ g0.symm) (nz_cons h2 (nz_cons h3 (nz_cons (ne_of_cmp h4 rfl) (nz_cons (two_ne _) nz_nil)))) (by kernel_rfl)) (show ((-1 : Int) : Rat) ≠ (0 : Rat) from by decide +kernel) h1
        have h6 := ne_like (likeC (x := planeSimilar6t_e21) (y := (.z 0)) (k := (.z 2)) (p := planeSimilar6t_e5) (q := (.z 0)) (nz := [planeSimilar6t_e5, planeSimilar6t_e12, planeSimilar6t_e15, (.z 2)]) (varsA_4 σ g0.symm) (nz_cons h2 (nz_cons h3 (nz_cons (ne_of_cmp h4 rfl) (nz_cons (two_ne _) nz_nil)))) (by kernel_rfl)) (show ((2 : Int) : Rat) ≠ (0 : Rat) from by decide +kernel) h2
        have h7 := ne_like (likeC (x := planeSimilar6t_e20) (y := (.z 0)) (k := (.z 1)) (p := planeSimilar6t_e5) (q := (.z 0)) (nz := [planeSimilar6t_e5, planeSimilar6t_e12, planeSimilar6t_e15, planeSimilar6t_e21, (.z 2)]) (varsA_4 σ g0.symm) (nz_cons h2 (nz_cons h3 (nz_cons (ne_of_cmp h4 rfl) (nz_cons h6 (nz_cons (two_ne _) nz_nil))))) (by kernel_rfl)) (show ((1 : Int) : Rat) ≠ (0 : Rat) from by decide +kernel) h2
        have h8 := cmpR_like (likeC (x := planeSimilar6t_e37) (y := (.z 0)) (k := (.z 1)) (p := planeSimilar6t_e15) (q := (.z 0)) (nz := [planeSimilar6t_e5, planeSimilar6t_e12, planeSimilar6t_e15, planeSimilar6t_e21, planeSimilar6t_e20, (.z 2)]) (varsA_4 σ g0.symm) (nz_cons h2 (nz_cons h3 (nz_cons (ne_of_cmp h4 rfl) (nz_cons h6 (nz_cons h7 (nz_cons (two_ne _) nz_nil)))))) (by kernel_rfl)) (show (0 : Rat) < ((1 : Int) : Rat) from by decide +kernel) h4
        exact ⟨σ, planeSimilar6t_A1, up_eq, (orc_cmp h0 (orc_cmp h4 (orc_cmp h8 (orc_ne h1 (orc_ne h2 (orc_ne h3 (orc_ne h5 (orc_ne h6 (orc_ne h7 orc_nil))))))))), planeSimilar6t_p1⟩
      · skip
        by_cases h5 : ∃ s : Rat, RE.eval σ planeSimilar6t_e15 = s * s
        · replace h5 := up_root h5
          have h6 := ne_like (likeC (x := (.add (.v 6) (.sub (.v 5) (.v 1)))) (y := (.add (.v 6) (.sub (.v 5) (.v 5)))) (k := (.z (-1))) (p := (.v 1)) (q := (.v 5)) (nz := [planeSimilar6t_e5, planeSimilar6t_e12, (.z 2)]) (varsA_4 σ g0.symm) (nz_cons h2 (nz_cons h3 (nz_cons (two_ne _) nz_nil))) (by kernel_rfl)) (show ((-1 : Int) : Rat) ≠ (0 : Rat) from by decide +kernel) h1
          have h7 := ne_like (likeC (x := planeSimilar6t_e21) (y := (.z 0)) (k := (.z 2)) (p := planeSimilar6t_e5) (q := (.z 0)) (nz := [planeSimilar6t_e5, planeSimilar6t_e12, (.z 2)]) (varsA_4 σ g0.symm) (nz_cons h2 (nz_cons h3 (nz_cons (two_ne _) nz_nil))) (by kernel_rfl)) (show ((2 : Int) : Rat) ≠ (0 : Rat) from by decide +kernel) h2
          have h8 := ne_like (likeC (x := planeSimilar6t_e20) (y := (.z 0)) (k := (.z 1)) (p := planeSimilar6t_e5) (q := (.z 0)) (nz := [planeSimilar6t_e5, planeSimilar6t_e12, planeSimilar6t_e21, (.z 2)]) (varsA_4 σ g0.symm) (nz_cons h2 (nz_cons h3 (nz_cons h7 (nz_cons (two_ne _) nz_nil)))) (by kernel_rfl)) (show ((1 : Int) : Rat) ≠ (0 : Rat) from by decide +kernel) h2
          have h9 := cmpR_like (likeC (x := planeSimilar6t_e37) (y := (.z 0)) (k := (.z 1)) (p := planeSimilar6t_e15) (q := (.z 0)) (nz := [planeSimilar6t_e5, planeSimilar6t_e12, planeSimilar6t_e21, planeSimilar6t_e20, (.z 2)]) (varsA_4 σ g0.symm) (nz_cons h2 (nz_cons h3 (nz_cons h7 (nz_cons h8 (nz_cons (two_ne _) nz_nil))))) (by kernel_rfl)) (show (0 : Rat) < ((1 : Int) : Rat) from by decide +kernel) h4
          have h10 := sq_like (eqC (x := planeSimilar6t_e37) (y := planeSimilar6t_e15) (nz := [planeSimilar6t_e5, planeSimilar6t_e12, planeSimilar6t_e21, planeSimilar6t_e20, (.z 2)]) (varsA_4 σ g0.symm) (nz_cons h2 (nz_cons h3 (nz_cons h7 (nz_cons h8 (nz_cons (two_ne _) nz_nil))))) (by kernel_rfl)) h5
          have h11 := cmpR_zero.2 (eqC (x := planeSimilar6t_e42) (y := planeSimilar6t_e47) (nz := [planeSimilar6t_e5, planeSimilar6t_e12, planeSimilar6t_e21, planeSimilar6t_e20, (.z 2)]) (varsA_4 σ g0.symm) (nz_cons h2 (nz_cons h3 (nz_cons h7 (nz_cons h8 (nz_cons (two_ne _) nz_nil))))) (by kernel_rfl))
          have h12 := cmpR_zero.2 (eqC (x := planeSimilar6t_e52) (y := planeSimilar6t_e56) (nz := [planeSimilar6t_e5, planeSimilar6t_e12, planeSimilar6t_e21, planeSimilar6t_e20, (.z 2)]) (varsA_4 σ g0.symm) (nz_cons h2 (nz_cons h3 (nz_cons h7 (nz_cons h8 (nz_cons (two_ne _) nz_nil))))) (by kernel_rfl))
          exact ⟨σ, planeSimilar6t_A2, up_eq, (orc_cmp h0 (orc_cmp h4 (orc_cmp h9 (orc_cmp h11 (orc_cmp h12 (orc_root h5 (orc_root h10 (orc_ne h1 (orc_ne h2 (orc_ne h3 (orc_ne h6 (orc_ne h7 (orc_ne h8 orc_nil))))))))))))), planeSimilar6t_p2⟩
        · replace h5 := not_ex h5
          have h6 := ne_like (likeC (x := (.add (.v 6) (.sub (.v 5) (.v 1)))) (y := (.add (.v 6) (.sub (.v 5) (.v 5)))) (k := (.z (-1))) (p := (.v 1)) (q := (.v 5)) (nz := [planeSimilar6t_e5, planeSimilar6t_e12, (.z 2)]) (varsA_4 σ g0.symm) (nz_cons h2 (nz_cons h3 (nz_cons (two_ne _) nz_nil))) (by kernel_rfl)) (show ((-1 : Int) : Rat) ≠ (0 : Rat) from by decide +kernel) h1
          have h7 := ne_like (likeC (x := planeSimilar6t_e21) (y := (.z 0)) (k := (.z 2)) (p := planeSimilar6t_e5) (q := (.z 0)) (nz := [planeSimilar6t_e5, planeSimilar6t_e12, (.z 2)]) (varsA_4 σ g0.symm) (nz_cons h2 (nz_cons h3 (nz_cons (two_ne _) nz_nil))) (by kernel_rfl)) (show ((2 : Int) : Rat) ≠ (0 : Rat) from by decide +kernel) h2
          have h8 := ne_like (likeC (x := planeSimilar6t_e20) (y := (.z 0)) (k := (.z 1)) (p := planeSimilar6t_e5) (q := (.z 0)) (nz := [planeSimilar6t_e5, planeSimilar6t_e12, planeSimilar6t_e21, (.z 2)]) (varsA_4 σ g0.symm) (nz_cons h2 (nz_cons h3 (nz_cons h7 (nz_cons (two_ne _) nz_nil)))) (by kernel_rfl)) (show ((1 : Int) : Rat) ≠ (0 : Rat) from by decide +kernel) h2
          have h9 := cmpR_like (likeC (x := planeSimilar6t_e37) (y := (.z 0)) (k := (.z 1)) (p := planeSimilar6t_e15) (q := (.z 0)) (nz := [planeSimilar6t_e5, planeSimilar6t_e12, planeSimilar6t_e21, planeSimilar6t_e20, (.z 2)]) (varsA_4 σ g0.symm) (nz_cons h2 (nz_cons h3 (nz_cons h7 (nz_cons h8 (nz_cons (two_ne _) nz_nil))))) (by kernel_rfl)) (show (0 : Rat) < ((1 : Int) : Rat) from by decide +kernel) h4
          have h10 := nosq_like (eqC (x := planeSimilar6t_e37) (y := planeSimilar6t_e15) (nz := [planeSimilar6t_e5, planeSimilar6t_e12, planeSimilar6t_e21, planeSimilar6t_e20, (.z 2)]) (varsA_4 σ g0.symm) (nz_cons h2 (nz_cons h3 (nz_cons h7 (nz_cons h8 (nz_cons (two_ne _) nz_nil))))) (by kernel_rfl)) h5
          exact ⟨σ, planeSimilar6t_A3, up_eq, (orc_cmp h0 (orc_cmp h4 (orc_cmp h9 (orc_noroot h5 (orc_noroot h10 (orc_ne h1 (orc_ne h2 (orc_ne h3 (orc_ne h6 (orc_ne h7 (orc_ne h8 orc_nil))))))))))), planeSimilar6t_p3⟩
      · skip
        by_cases h5 : ∃ s : Rat, RE.eval σ planeSimilar6t_e15 = s * s
        · replace h5 := up_root h5
          have h6 := ne_like (likeC (x := (.add (.v 6) (.sub (.v 5) (.v 1)))) (y := (.add (.v 6) (.sub (.v 5) (.v 5)))) (k := (.z (-1))) (p := (.v 1)) (q := (.v 5)) (nz := [planeSimilar6t_e5, planeSimilar6t_e12, planeSimilar6t_e15, (.z 2)]) (varsA_4 σ g0.symm) (nz_cons h2 (nz_cons h3 (nz_cons (ne_of_cmp h4 rfl) (nz_cons (two_ne _) nz_nil)))) (by kernel_rfl)) (show ((-1 : Int) : Rat) ≠ (0 : Rat) from by decide +kernel) h1
          have h7 := ne_like (likeC (x := planeSimilar6t_e21) (y := (.z 0)) (k := (.z 2)) (p := planeSimilar6t_e5) (q := (.z 0)) (nz := [planeSimilar6t_e5, planeSimilar6t_e12, planeSimilar6t_e15, (.z 2)]) (varsA_4 σ g0.symm) (nz_cons h2 (nz_cons h3 (nz_cons (ne_of_cmp h4 rfl) (nz_cons (two_ne _) nz_nil)))) (by kernel_rfl)) (show ((2 : Int) : Rat) ≠ (0 : Rat) from by decide +kernel) h2
          have h8 := ne_like (likeC (x := planeSimilar6t_e20) (y := (.z 0)) (k := (.z 1)) (p := planeSimilar6t_e5) (q := (.z 0)) (nz := [planeSimilar6t_e5, planeSimilar6t_e12, planeSimilar6t_e15, planeSimilar6t_e21, (.z 2)]) (varsA_4 σ g0.symm) (nz_cons h2 (nz_cons h3 (nz_cons (ne_of_cmp h4 rfl) (nz_cons h7 (nz_cons (two_ne _) nz_nil))))) (by kernel_rfl)) (show ((1 : Int) : Rat) ≠ (0 : Rat) from by decide +kernel) h2
          have h9 := cmpR_like (likeC (x := planeSimilar6t_e37) (y := (.z 0)) (k := (.z 1)) (p := planeSimilar6t_e15) (q := (.z 0)) (nz := [planeSimilar6t_e5, planeSimilar6t_e12, planeSimilar6t_e15, planeSimilar6t_e21, planeSimilar6t_e20, (.z 2)]) (varsA_4 σ g0.symm) (nz_cons h2 (nz_cons h3 (nz_cons (ne_of_cmp h4 rfl) (nz_cons h7 (nz_cons h8 (nz_cons (two_ne _) nz_nil)))))) (by kernel_rfl)) (show (0 : Rat) < ((1 : Int) : Rat) from by decide +kernel) h4
          have h10 := sq_like (eqC (x := planeSimilar6t_e37) (y := planeSimilar6t_e15) (nz := [planeSimilar6t_e5, planeSimilar6t_e12, planeSimilar6t_e15, planeSimilar6t_e21, planeSimilar6t_e20, planeSimilar6t_e37, (.z 2)]) (varsA_4 σ g0.symm) (nz_cons h2 (nz_cons h3 (nz_cons (ne_of_cmp h4 rfl) (nz_cons h7 (nz_cons h8 (nz_cons (ne_of_cmp h9 rfl) (nz_cons (two_ne _) nz_nil))))))) (by kernel_rfl)) h5
          have h11 := cmpR_zero.2 (eqC (x := planeSimilar6t_e42) (y := planeSimilar6t_e47) (nz := [planeSimilar6t_e5, planeSimilar6t_e12, planeSimilar6t_e15, planeSimilar6t_e21, planeSimilar6t_e20, planeSimilar6t_e37, (.z 2)]) (varsA_4 σ g0.symm) (nz_cons h2 (nz_cons h3 (nz_cons (ne_of_cmp h4 rfl) (nz_cons h7 (nz_cons h8 (nz_cons (ne_of_cmp h9 rfl) (nz_cons (two_ne _) nz_nil))))))) (by kernel_rfl))
          have h12 := cmpR_zero.2 (eqC (x := planeSimilar6t_e52) (y := planeSimilar6t_e56) (nz := [planeSimilar6t_e5, planeSimilar6t_e12, planeSimilar6t_e15, planeSimilar6t_e21, planeSimilar6t_e20, planeSimilar6t_e37, (.z 2)]) (varsA_4 σ g0.symm) (nz_cons h2 (nz_cons h3 (nz_cons (ne_of_cmp h4 rfl) (nz_cons h7 (nz_cons h8 (nz_cons (ne_of_cmp h9 rfl) (nz_cons (two_ne _) nz_nil))))))) (by kernel_rfl))
          exact ⟨σ, planeSimilar6t_A4, up_eq, (orc_cmp h0 (orc_cmp h4 (orc_cmp h9 (orc_cmp h11 (orc_cmp h12 (orc_root h5 (orc_root h10 (orc_ne h1 (orc_ne h2 (orc_ne h3 (orc_ne h6 (orc_ne h7 (orc_ne h8 orc_nil))))))))))))), planeSimilar6t_p4⟩
        · replace h5 := not_ex h5
          have h6 := ne_like (likeC (x := (.add (.v 6) (.sub (.v 5) (.v 1)))) (y := (.add (.v 6) (.sub (.v 5) (.v 5)))) (k := (.z (-1))) (p := (.v 1)) (q := (.v 5)) (nz := [planeSimilar6t_e5, planeSimilar6t_e12, planeSimilar6t_e15, (.z 2)]) (varsA_4 σ g0.symm) (nz_cons h2 (nz_cons h3 (nz_cons (ne_of_cmp h4 rfl) (nz_cons (two_ne _) nz_nil)))) (by kernel_rfl)) (show ((-1 : Int) : Rat) ≠ (0 : Rat) from by decide +kernel) h1
          have h7 := ne_like (likeC (x := planeSimilar6t_e21) (y := (.z 0)) (k := (.z 2)) (p := planeSimilar6t_e5) (q := (.z 0)) (nz := [planeSimilar6t_e5, planeSimilar6t_e12, planeSimilar6t_e15, (.z 2)]) (varsA_4 σ g0.symm) (nz_cons h2 (nz_cons h3 (nz_cons (ne_of_cmp h4 rfl) (nz_cons (two_ne _) nz_nil)))) (by kernel_rfl)) (show ((2 : Int) : Rat) ≠ (0 : Rat) from by decide +kernel) h2
          have h8 := ne_like (likeC (x := planeSimilar6t_e20) (y := (.z 0)) (k := (.z 1)) (p := planeSimilar6t_e5) (q := (.z 0)) (nz := [planeSimilar6t_e5, planeSimilar6t_e12, planeSimilar6t_e15, planeSimilar6t_e21, (.z 2)]) (varsA_4 σ g0.symm) (nz_cons h2 (nz_cons h3 (nz_cons (ne_of_cmp h4 rfl) (nz_cons h7 (nz_cons (two_ne _) nz_nil))))) (by kernel_rfl)) (show ((1 : Int) : Rat) ≠ (0 : Rat) from by decide +kernel) h2
          have h9 := cmpR_like (likeC (x := planeSimilar6t_e37) (y := (.z 0)) (k := (.z 1)) (p := planeSimilar6t_e15) (q := (.z 0)) (nz := [planeSimilar6t_e5, planeSimilar6t_e12, planeSimilar6t_e15, planeSimilar6t_e21, planeSimilar6t_e20, (.z 2)]) (varsA_4 σ g0.symm) (nz_cons h2 (nz_cons h3 (nz_cons (ne_of_cmp h4 rfl) (nz_cons h7 (nz_cons h8 (nz_cons (two_ne _) nz_nil)))))) (by kernel_rfl)) (show (0 : Rat) < ((1 : Int) : Rat) from by decide +kernel) h4
          have h10 := nosq_like (eqC (x := planeSimilar6t_e37) (y := planeSimilar6t_e15) (nz := [planeSimilar6t_e5, planeSimilar6t_e12, planeSimilar6t_e15, planeSimilar6t_e21, planeSimilar6t_e20, planeSimilar6t_e37, (.z 2)]) (varsA_4 σ g0.symm) (nz_cons h2 (nz_cons h3 (nz_cons (ne_of_cmp h4 rfl) (nz_cons h7 (nz_cons h8 (nz_cons (ne_of_cmp h9 rfl) (nz_cons (two_ne _) nz_nil))))))) (by kernel_rfl)) h5
          exact ⟨σ, planeSimilar6t_A5, up_eq, (orc_cmp h0 (orc_cmp h4 (orc_cmp h9 (orc_noroot h5 (orc_noroot h10 (orc_ne h1 (orc_ne h2 (orc_ne h3 (orc_ne h6 (orc_ne h7 (orc_ne h8 orc_nil))))))))))), planeSimilar6t_p5⟩
  · skip
    have h1 := normC (b := planeSimilar6t_e5) (x := (.v 0)) (y := (.v 4)) (f := (.sub (.v 5) (.v 1))) (nz := [(.z 2)]) (varsA σ) (nz_cons (two_ne _) nz_nil) (by kernel_rfl) h0
    have h2 := ne_like (likeC (x := planeSimilar6t_e12) (y := (.z 0)) (k := (.z 2)) (p := planeSimilar6t_e5) (q := (.z 0)) (nz := [planeSimilar6t_e5, (.z 2)]) (varsA σ) (nz_cons h1 (nz_cons (two_ne _) nz_nil)) (by kernel_rfl)) (show ((2 : Int) : Rat) ≠ (0 : Rat) from by decide +kernel) h1
    rcases cmpR_bound (RE.eval σ planeSimilar6t_e15) (RE.eval σ (.z 0)) with h3 | h3 | h3
    · skip
      by_cases h4 : RE.eval σ (.add (.v 6) (.sub (.v 5) (.v 1))) = RE.eval σ (.add (.v 6) (.sub (.v 5) (.v 5)))
      · have g4 := h4
        replace h4 := cmpR_zero.2 h4
        have h5 := ne_like (likeC (x := (.add (.v 7) (.sub (.v 0) (.v 4)))) (y := (.add (.v 7) (.sub (.v 4) (.v 4)))) (k := (.z 1)) (p := (.v 0)) (q := (.v 4)) (nz := [planeSimilar6t_e5, planeSimilar6t_e12, planeSimilar6t_e15, (.z 2)]) (varsA σ) (nz_cons h1 (nz_cons h2 (nz_cons (ne_of_cmp h3 rfl) (nz_cons (two_ne _) nz_nil)))) (by kernel_rfl)) (show ((1 : Int) : Rat) ≠ (0 : Rat) from by decide +kernel) h0
        have h6 := ne_like (likeC (x := planeSimilar6t_e21) (y := (.z 0)) (k := (.z 2)) (p := planeSimilar6t_e5) (q := (.z 0)) (nz := [planeSimilar6t_e5, planeSimilar6t_e12, planeSimilar6t_e15, (.z 2)]) (varsA σ) (nz_cons h1 (nz_cons h2 (nz_cons (ne_of_cmp h3 rfl) (nz_cons (two_ne _) nz_nil)))) (by kernel_rfl)) (show ((2 : Int) : Rat) ≠ (0 : Rat) from by decide +kernel) h1
        have h7 := ne_like (likeC (x := planeSimilar6t_e20) (y := (.z 0)) (k := (.z 1)) (p := planeSimilar6t_e5) (q := (.z 0)) (nz := [planeSimilar6t_e5, planeSimilar6t_e12, planeSimilar6t_e15, planeSimilar6t_e21, (.z 2)]) (varsA σ) (nz_cons h1 (nz_cons h2 (nz_cons (ne_of_cmp h3 rfl) (nz_cons h6 (nz_cons (two_ne _) nz_nil))))) (by kernel_rfl)) (show ((1 : Int) : Rat) ≠ (0 : Rat) from by decide +kernel) h1
        have h8 := cmpR_like (likeC (x := planeSimilar6t_e37) (y := (.z 0)) (k := (.z 1)) (p := planeSimilar6t_e15) (q := (.z 0)) (nz := [planeSimilar6t_e5, planeSimilar6t_e12, planeSimilar6t_e15, planeSimilar6t_e21, planeSimilar6t_e20, (.z 2)]) (varsA σ) (nz_cons h1 (nz_cons h2 (nz_cons (ne_of_cmp h3 rfl) (nz_cons h6 (nz_cons h7 (nz_cons (two_ne _) nz_nil)))))) (by kernel_rfl)) (show (0 : Rat) < ((1 : Int) : Rat) from by decide +kernel) h3
        exact ⟨σ, planeSimilar6t_A6, up_eq, (orc_cmp h3 (orc_cmp h4 (orc_cmp h8 (orc_ne h0 (orc_ne h1 (orc_ne h2 (orc_ne h5 (orc_ne h6 (orc_ne h7 orc_nil))))))))), planeSimilar6t_p6⟩
      · skip
        have h5 := ne_like (likeC (x := planeSimilar6t_e21) (y := (.z 0)) (k := (.z 2)) (p := planeSimilar6t_e5) (q := (.z 0)) (nz := [planeSimilar6t_e5, planeSimilar6t_e12, planeSimilar6t_e15, (.z 2)]) (varsA σ) (nz_cons h1 (nz_cons h2 (nz_cons (ne_of_cmp h3 rfl) (nz_cons (two_ne _) nz_nil)))) (by kernel_rfl)) (show ((2 : Int) : Rat) ≠ (0 : Rat) from by decide +kernel) h1
        have h6 := ne_like (likeC (x := planeSimilar6t_e20) (y := (.z 0)) (k := (.z 1)) (p := planeSimilar6t_e5) (q := (.z 0)) (nz := [planeSimilar6t_e5, planeSimilar6t_e12, planeSimilar6t_e15, planeSimilar6t_e21, (.z 2)]) (varsA σ) (nz_cons h1 (nz_cons h2 (nz_cons (ne_of_cmp h3 rfl) (nz_cons h5 (nz_cons (two_ne _) nz_nil))))) (by kernel_rfl)) (show ((1 : Int) : Rat) ≠ (0 : Rat) from by decide +kernel) h1
        have h7 := cmpR_like (likeC (x := planeSimilar6t_e37) (y := (.z 0)) (k := (.z 1)) (p := planeSimilar6t_e15) (q := (.z 0)) (nz := [planeSimilar6t_e5, planeSimilar6t_e12, planeSimilar6t_e15, planeSimilar6t_e21, planeSimilar6t_e20, (.z 2)]) (varsA σ) (nz_cons h1 (nz_cons h2 (nz_cons (ne_of_cmp h3 rfl) (nz_cons h5 (nz_cons h6 (nz_cons (two_ne _) nz_nil)))))) (by kernel_rfl)) (show (0 : Rat) < ((1 : Int) : Rat) from by decide +kernel) h3
        exact ⟨σ, planeSimilar6t_A7, up_eq, (orc_cmp h3 (orc_cmp h7 (orc_ne h0 (orc_ne h1 (orc_ne h2 (orc_ne h4 (orc_ne h5 (orc_ne h6 orc_nil)))))))), planeSimilar6t_p7⟩
    · skip
      by_cases h4 : ∃ s : Rat, RE.eval σ planeSimilar6t_e15 = s * s
      · replace h4 := up_root h4
        by_cases h5 : RE.eval σ (.add (.v 6) (.sub (.v 5) (.v 1))) = RE.eval σ (.add (.v 6) (.sub (.v 5) (.v 5)))
        · have g5 := h5
          replace h5 := cmpR_zero.2 h5
          have h6 := ne_like (likeC (x := (.add (.v 7) (.sub (.v 0) (.v 4)))) (y := (.add (.v 7) (.sub (.v 4) (.v 4)))) (k := (.z 1)) (p := (.v 0)) (q := (.v 4)) (nz := [planeSimilar6t_e5, planeSimilar6t_e12, (.z 2)]) (varsA σ) (nz_cons h1 (nz_cons h2 (nz_cons (two_ne _) nz_nil))) (by kernel_rfl)) (show ((1 : Int) : Rat) ≠ (0 : Rat) from by decide +kernel) h0
          have h7 := ne_like (likeC (x := planeSimilar6t_e21) (y := (.z 0)) (k := (.z 2)) (p := planeSimilar6t_e5) (q := (.z 0)) (nz := [planeSimilar6t_e5, planeSimilar6t_e12, (.z 2)]) (varsA σ) (nz_cons h1 (nz_cons h2 (nz_cons (two_ne _) nz_nil))) (by kernel_rfl)) (show ((2 : Int) : Rat) ≠ (0 : Rat) from by decide +kernel) h1
          have h8 := ne_like (likeC (x := planeSimilar6t_e20) (y := (.z 0)) (k := (.z 1)) (p := planeSimilar6t_e5) (q := (.z 0)) (nz := [planeSimilar6t_e5, planeSimilar6t_e12, planeSimilar6t_e21, (.z 2)]) (varsA σ) (nz_cons h1 (nz_cons h2 (nz_cons h7 (nz_cons (two_ne _) nz_nil)))) (by kernel_rfl)) (show ((1 : Int) : Rat) ≠ (0 : Rat) from by decide +kernel) h1
          have h9 := cmpR_like (likeC (x := planeSimilar6t_e37) (y := (.z 0)) (k := (.z 1)) (p := planeSimilar6t_e15) (q := (.z 0)) (nz := [planeSimilar6t_e5, planeSimilar6t_e12, planeSimilar6t_e21, planeSimilar6t_e20, (.z 2)]) (varsA σ) (nz_cons h1 (nz_cons h2 (nz_cons h7 (nz_cons h8 (nz_cons (two_ne _) nz_nil))))) (by kernel_rfl)) (show (0 : Rat) < ((1 : Int) : Rat) from by decide +kernel) h3
          have h10 := sq_like (eqC (x := planeSimilar6t_e37) (y := planeSimilar6t_e15) (nz := [planeSimilar6t_e5, planeSimilar6t_e12, planeSimilar6t_e21, planeSimilar6t_e20, (.z 2)]) (varsA σ) (nz_cons h1 (nz_cons h2 (nz_cons h7 (nz_cons h8 (nz_cons (two_ne _) nz_nil))))) (by kernel_rfl)) h4
          have h11 := cmpR_zero.2 (eqC (x := planeSimilar6t_e42) (y := planeSimilar6t_e47) (nz := [planeSimilar6t_e5, planeSimilar6t_e12, planeSimilar6t_e21, planeSimilar6t_e20, (.z 2)]) (varsA σ) (nz_cons h1 (nz_cons h2 (nz_cons h7 (nz_cons h8 (nz_cons (two_ne _) nz_nil))))) (by kernel_rfl))
          have h12 := cmpR_zero.2 (eqC (x := planeSimilar6t_e52) (y := planeSimilar6t_e56) (nz := [planeSimilar6t_e5, planeSimilar6t_e12, planeSimilar6t_e21, planeSimilar6t_e20, (.z 2)]) (varsA σ) (nz_cons h1 (nz_cons h2 (nz_cons h7 (nz_cons h8 (nz_cons (two_ne _) nz_nil))))) (by kernel_rfl))
          exact ⟨σ, planeSimilar6t_A8, up_eq, (orc_cmp h3 (orc_cmp h5 (orc_cmp h9 (orc_cmp h11 (orc_cmp h12 (orc_root h4 (orc_root h10 (orc_ne h0 (orc_ne h1 (orc_ne h2 (orc_ne h6 (orc_ne h7 (orc_ne h8 orc_nil))))))))))))), planeSimilar6t_p8⟩
        · skip
          have h6 := ne_like (likeC (x := planeSimilar6t_e21) (y := (.z 0)) (k := (.z 2)) (p := planeSimilar6t_e5) (q := (.z 0)) (nz := [planeSimilar6t_e5, planeSimilar6t_e12, (.z 2)]) (varsA σ) (nz_cons h1 (nz_cons h2 (nz_cons (two_ne _) nz_nil))) (by kernel_rfl)) (show ((2 : Int) : Rat) ≠ (0 : Rat) from by decide +kernel) h1
          have h7 := ne_like (likeC (x := planeSimilar6t_e20) (y := (.z 0)) (k := (.z 1)) (p := planeSimilar6t_e5) (q := (.z 0)) (nz := [planeSimilar6t_e5, planeSimilar6t_e12, planeSimilar6t_e21, (.z 2)]) (varsA σ) (nz_cons h1 (nz_cons h2 (nz_cons h6 (nz_cons (two_ne _) nz_nil)))) (by kernel_rfl)) (show ((1 : Int) : Rat) ≠ (0 : Rat) from by decide +kernel) h1
          have h8 := cmpR_like (likeC (x := planeSimilar6t_e37) (y := (.z 0)) (k := (.z 1)) (p := planeSimilar6t_e15) (q := (.z 0)) (nz := [planeSimilar6t_e5, planeSimilar6t_e12, planeSimilar6t_e21, planeSimilar6t_e20, (.z 2)]) (varsA σ) (nz_cons h1 (nz_cons h2 (nz_cons h6 (nz_cons h7 (nz_cons (two_ne _) nz_nil))))) (by kernel_rfl)) (show (0 : Rat) < ((1 : Int) : Rat) from by decide +kernel) h3
          have h9 := sq_like (eqC (x := planeSimilar6t_e37) (y := planeSimilar6t_e15) (nz := [planeSimilar6t_e5, planeSimilar6t_e12, planeSimilar6t_e21, planeSimilar6t_e20, (.z 2)]) (varsA σ) (nz_cons h1 (nz_cons h2 (nz_cons h6 (nz_cons h7 (nz_cons (two_ne _) nz_nil))))) (by kernel_rfl)) h4
          have h10 := cmpR_zero.2 (eqC (x := planeSimilar6t_e42) (y := planeSimilar6t_e47) (nz := [planeSimilar6t_e5, planeSimilar6t_e12, planeSimilar6t_e21, planeSimilar6t_e20, (.z 2)]) (varsA σ) (nz_cons h1 (nz_cons h2 (nz_cons h6 (nz_cons h7 (nz_cons (two_ne _) nz_nil))))) (by kernel_rfl))
          have h11 := cmpR_zero.2 (eqC (x := planeSimilar6t_e52) (y := planeSimilar6t_e56) (nz := [planeSimilar6t_e5, planeSimilar6t_e12, planeSimilar6t_e21, planeSimilar6t_e20, (.z 2)]) (varsA σ) (nz_cons h1 (nz_cons h2 (nz_cons h6 (nz_cons h7 (nz_cons (two_ne _) nz_nil))))) (by kernel_rfl))
          exact ⟨σ, planeSimilar6t_A9, up_eq, (orc_cmp h3 (orc_cmp h8 (orc_cmp h10 (orc_cmp h11 (orc_root h4 (orc_root h9 (orc_ne h0 (orc_ne h1 (orc_ne h2 (orc_ne h5 (orc_ne h6 (orc_ne h7 orc_nil)))))))))))), planeSimilar6t_p9⟩
      · replace h4 := not_ex h4
        by_cases h5 : RE.eval σ (.add (.v 6) (.sub (.v 5) (.v 1))) = RE.eval σ (.add (.v 6) (.sub (.v 5) (.v 5)))
        · have g5 := h5
          replace h5 := cmpR_zero.2 h5
          have h6 := ne_like (likeC (x := (.add (.v 7) (.sub (.v 0) (.v 4)))) (y := (.add (.v 7) (.sub (.v 4) (.v 4)))) (k := (.z 1)) (p := (.v 0)) (q := (.v 4)) (nz := [planeSimilar6t_e5, planeSimilar6t_e12, (.z 2)]) (varsA σ) (nz_cons h1 (nz_cons h2 (nz_cons (two_ne _) nz_nil))) (by kernel_rfl)) (show ((1 : Int) : Rat) ≠ (0 : Rat) from by decide +kernel) h0
          have h7 := ne_like (likeC (x := planeSimilar6t_e21) (y := (.z 0)) (k := (.z 2)) (p := planeSimilar6t_e5) (q := (.z 0)) (nz := [planeSimilar6t_e5, planeSimilar6t_e12, (.z 2)]) (varsA σ) (nz_cons h1 (nz_cons h2 (nz_cons (two_ne _) nz_nil))) (by kernel_rfl)) (show ((2 : Int) : Rat) ≠ (0 : Rat) from by decide +kernel) h1
          have h8 := ne_like (likeC (x := planeSimilar6t_e20) (y := (.z 0)) (k := (.z 1)) (p := planeSimilar6t_e5) (q := (.z 0)) (nz := [planeSimilar6t_e5, planeSimilar6t_e12, planeSimilar6t_e21, (.z 2)]) (varsA σ) (nz_cons h1 (nz_cons h2 (nz_cons h7 (nz_cons (two_ne _) nz_nil)))) (by kernel_rfl)) (show ((1 : Int) : Rat) ≠ (0 : Rat) from by decide +kernel) h1
          have h9 := cmpR_like (likeC (x := planeSimilar6t_e37) (y := (.z 0)) (k := (.z 1)) (p := planeSimilar6t_e15) (q := (.z 0)) (nz := [planeSimilar6t_e5, planeSimilar6t_e12, planeSimilar6t_e21, planeSimilar6t_e20, (.z 2)]) (varsA σ) (nz_cons h1 (nz_cons h2 (nz_cons h7 (nz_cons h8 (nz_cons (two_ne _) nz_nil))))) (by kernel_rfl)) (show (0 : Rat) < ((1 : Int) : Rat) from by decide +kernel) h3
          have h10 := nosq_like (eqC (x := planeSimilar6t_e37) (y := planeSimilar6t_e15) (nz := [planeSimilar6t_e5, planeSimilar6t_e12, planeSimilar6t_e21, planeSimilar6t_e20, (.z 2)]) (varsA σ) (nz_cons h1 (nz_cons h2 (nz_cons h7 (nz_cons h8 (nz_cons (two_ne _) nz_nil))))) (by kernel_rfl)) h4
          exact ⟨σ, planeSimilar6t_A10, up_eq, (orc_cmp h3 (orc_cmp h5 (orc_cmp h9 (orc_noroot h4 (orc_noroot h10 (orc_ne h0 (orc_ne h1 (orc_ne h2 (orc_ne h6 (orc_ne h7 (orc_ne h8 orc_nil))))))))))), planeSimilar6t_p10⟩
        · skip
          have h6 := ne_like (likeC (x := planeSimilar6t_e21) (y := (.z 0)) (k := (.z 2)) (p := planeSimilar6t_e5) (q := (.z 0)) (nz := [planeSimilar6t_e5, planeSimilar6t_e12, (.z 2)]) (varsA σ) (nz_cons h1 (nz_cons h2 (nz_cons (two_ne _) nz_nil))) (by kernel_rfl)) (show ((2 : Int) : Rat) ≠ (0 : Rat) from by decide +kernel) h1
          have h7 := ne_like (likeC (x := planeSimilar6t_e20) (y := (.z 0)) (k := (.z 1)) (p := planeSimilar6t_e5) (q := (.z 0)) (nz := [planeSimilar6t_e5, planeSimilar6t_e12, planeSimilar6t_e21, (.z 2)]) (varsA σ) (nz_cons h1 (nz_cons h2 (nz_cons h6 (nz_cons (two_ne _) nz_nil)))) (by kernel_rfl)) (show ((1 : Int) : Rat) ≠ (0 : Rat) from by decide +kernel) h1
          have h8 := cmpR_like (likeC (x := planeSimilar6t_e37) (y := (.z 0)) (k := (.z 1)) (p := planeSimilar6t_e15) (q := (.z 0)) (nz := [planeSimilar6t_e5, planeSimilar6t_e12, planeSimilar6t_e21, planeSimilar6t_e20, (.z 2)]) (varsA σ) (nz_cons h1 (nz_cons h2 (nz_cons h6 (nz_cons h7 (nz_cons (two_ne _) nz_nil))))) (by kernel_rfl)) (show (0 : Rat) < ((1 : Int) : Rat) from by decide +kernel) h3
          have h9 := nosq_like (eqC (x := planeSimilar6t_e37) (y := planeSimilar6t_e15) (nz := [planeSimilar6t_e5, planeSimilar6t_e12, planeSimilar6t_e21, planeSimilar6t_e20, (.z 2)]) (varsA σ) (nz_cons h1 (nz_cons h2 (nz_cons h6 (nz_cons h7 (nz_cons (two_ne _) nz_nil))))) (by kernel_rfl)) h4
          exact ⟨σ, planeSimilar6t_A11, up_eq, (orc_cmp h3 (orc_cmp h8 (orc_noroot h4 (orc_noroot h9 (orc_ne h0 (orc_ne h1 (orc_ne h2 (orc_ne h5 (orc_ne h6 (orc_ne h7 orc_nil)))))))))), planeSimilar6t_p11⟩
    · skip
      by_cases h4 : ∃ s : Rat, RE.eval σ planeSimilar6t_e15 = s * s
      · replace h4 := up_root h4
        by_cases h5 : RE.eval σ (.add (.v 6) (.sub (.v 5) (.v 1))) = RE.eval σ (.add (.v 6) (.sub (.v 5) (.v 5)))
        · have g5 := h5
          replace h5 := cmpR_zero.2 h5
          have h6 := ne_like (likeC (x := (.add (.v 7) (.sub (.v 0) (.v 4)))) (y := (.add (.v 7) (.sub (.v 4) (.v 4)))) (k := (.z 1)) (p := (.v 0)) (q := (.v 4)) (nz := [planeSimilar6t_e5, planeSimilar6t_e12, planeSimilar6t_e15, (.z 2)]) (varsA σ) (nz_cons h1 (nz_cons h2 (nz_cons (ne_of_cmp h3 rfl) (nz_cons (two_ne _) nz_nil)))) (by kernel_rfl)) (show ((1 : Int) : Rat) ≠ (0 : Rat) from by decide +kernel) h0
          have h7 := ne_like (likeC (x := planeSimilar6t_e21) (y := (.z 0)) (k := (.z 2)) (p := planeSimilar6t_e5) (q := (.z 0)) (nz := [planeSimilar6t_e5, planeSimilar6t_e12, planeSimilar6t_e15, (.z 2)]) (varsA σ) (nz_cons h1 (nz_cons h2 (nz_cons (ne_of_cmp h3 rfl) (nz_cons (two_ne _) nz_nil)))) (by kernel_rfl)) (show ((2 : Int) : Rat) ≠ (0 : Rat) from by decide +kernel) h1
          have h8 := ne_like (likeC (x := planeSimilar6t_e20) (y := (.z 0)) (k := (.z 1)) (p := planeSimilar6t_e5) (q := (.z 0)) (nz := [planeSimilar6t_e5, planeSimilar6t_e12, planeSimilar6t_e15, planeSimilar6t_e21, (.z 2)]) (varsA σ) (nz_cons h1 (nz_cons h2 (nz_cons (ne_of_cmp h3 rfl) (nz_cons h7 (nz_cons (two_ne _) nz_nil))))) (by kernel_rfl)) (show ((1 : Int) : Rat) ≠ (0 : Rat) from by decide +kernel) h1
          have h9 := cmpR_like (likeC (x := planeSimilar6t_e37) (y := (.z 0)) (k := (.z 1)) (p := planeSimilar6t_e15) (q := (.z 0)) (nz := [planeSimilar6t_e5, planeSimilar6t_e12, planeSimilar6t_e15, planeSimilar6t_e21, planeSimilar6t_e20, (.z 2)]) (varsA σ) (nz_cons h1 (nz_cons h2 (nz_cons (ne_of_cmp h3 rfl) (nz_cons h7 (nz_cons h8 (nz_cons (two_ne _) nz_nil)))))) (by kernel_rfl)) (show (0 : Rat) < ((1 : Int) : Rat) from by decide +kernel) h3
          have h10 := sq_like (eqC (x := planeSimilar6t_e37) (y := planeSimilar6t_e15) (nz := [planeSimilar6t_e5, planeSimilar6t_e12, planeSimilar6t_e15, planeSimilar6t_e21, planeSimilar6t_e20, planeSimilar6t_e37, (.z 2)]) (varsA σ) (nz_cons h1 (nz_cons h2 (nz_cons (ne_of_cmp h3 rfl) (nz_cons h7 (nz_cons h8 (nz_cons (ne_of_cmp h9 rfl) (nz_cons (two_ne _) nz_nil))))))) (by kernel_rfl)) h4
          have h11 := cmpR_zero.2 (eqC (x := planeSimilar6t_e42) (y := planeSimilar6t_e47) (nz := [planeSimilar6t_e5, planeSimilar6t_e12, planeSimilar6t_e15, planeSimilar6t_e21, planeSimilar6t_e20, planeSimilar6t_e37, (.z 2)]) (varsA σ) (nz_cons h1 (nz_cons h2 (nz_cons (ne_of_cmp h3 rfl) (nz_cons h7 (nz_cons h8 (nz_cons (ne_of_cmp h9 rfl) (nz_cons (two_ne _) nz_nil))))))) (by kernel_rfl))
          have h12 := cmpR_zero.2 (eqC (x := planeSimilar6t_e52) (y := planeSimilar6t_e56) (nz := [planeSimilar6t_e5, planeSimilar6t_e12, planeSimilar6t_e15, planeSimilar6t_e21, planeSimilar6t_e20, planeSimilar6t_e37, (.z 2)]) (varsA σ) (nz_cons h1 (nz_cons h2 (nz_cons (ne_of_cmp h3 rfl) (nz_cons h7 (nz_cons h8 (nz_cons (ne_of_cmp h9 rfl) (nz_cons (two_ne _) nz_nil))))))) (by kernel_rfl))
          exact ⟨σ, planeSimilar6t_A12, up_eq, (orc_cmp h3 (orc_cmp h5 (orc_cmp h9 (orc_cmp h11 (orc_cmp h12 (orc_root h4 (orc_root h10 (orc_ne h0 (orc_ne h1 (orc_ne h2 (orc_ne h6 (orc_ne h7 (orc_ne h8 orc_nil))))))))))))), planeSimilar6t_p12⟩
        · skip
          have h6 := ne_like (likeC (x := planeSimilar6t_e21) (y := (.z 0)) (k := (.z 2)) (p := planeSimilar6t_e5) (q := (.z 0)) (nz := [planeSimilar6t_e5, planeSimilar6t_e12, planeSimilar6t_e15, (.z 2)]) (varsA σ) (nz_cons h1 (nz_cons h2 (nz_cons (ne_of_cmp h3 rfl) (nz_cons (two_ne _) nz_nil)))) (by kernel_rfl)) (show ((2 : Int) : Rat) ≠ (0 : Rat) from by decide +kernel) h1
          have h7 := ne_like (likeC (x := planeSimilar6t_e20) (y := (.z 0)) (k := (.z 1)) (p := planeSimilar6t_e5) (q := (.z 0)) (nz := [planeSimilar6t_e5, planeSimilar6t_e12, planeSimilar6t_e15, planeSimilar6t_e21, (.z 2)]) (varsA σ) (nz_cons h1 (nz_cons h2 (nz_cons (ne_of_cmp h3 rfl) (nz_cons h6 (nz_cons (two_ne _) nz_nil))))) (by kernel_rfl)) (show ((1 : Int) : Rat) ≠ (0 : Rat) from by decide +kernel) h1
          have h8 := cmpR_like (likeC (x := planeSimilar6t_e37) (y := (.z 0)) (k := (.z 1)) (p := planeSimilar6t_e15) (q := (.z 0)) (nz := [planeSimilar6t_e5, planeSimilar6t_e12, planeSimilar6t_e15, planeSimilar6t_e21, planeSimilar6t_e20, (.z 2)]) (varsA σ) (nz_cons h1 (nz_cons h2 (nz_cons (ne_of_cmp h3 rfl) (nz_cons h6 (nz_cons h7 (nz_cons (two_ne _) nz_nil)))))) (by kernel_rfl)) (show (0 : Rat) < ((1 : Int) : Rat) from by decide +kernel) h3
          have h9 := sq_like (eqC (x := planeSimilar6t_e37) (y := planeSimilar6t_e15) (nz := [planeSimilar6t_e5, planeSimilar6t_e12, planeSimilar6t_e15, planeSimilar6t_e21, planeSimilar6t_e20, planeSimilar6t_e37, (.z 2)]) (varsA σ) (nz_cons h1 (nz_cons h2 (nz_cons (ne_of_cmp h3 rfl) (nz_cons h6 (nz_cons h7 (nz_cons (ne_of_cmp h8 rfl) (nz_cons (two_ne _) nz_nil))))))) (by kernel_rfl)) h4
          have h10 := cmpR_zero.2 (eqC (x := planeSimilar6t_e42) (y := planeSimilar6t_e47) (nz := [planeSimilar6t_e5, planeSimilar6t_e12, planeSimilar6t_e15, planeSimilar6t_e21, planeSimilar6t_e20, planeSimilar6t_e37, (.z 2)]) (varsA σ) (nz_cons h1 (nz_cons h2 (nz_cons (ne_of_cmp h3 rfl) (nz_cons h6 (nz_cons h7 (nz_cons (ne_of_cmp h8 rfl) (nz_cons (two_ne _) nz_nil))))))) (by kernel_rfl))
          have h11 := cmpR_zero.2 (eqC (x := planeSimilar6t_e52) (y := planeSimilar6t_e56) (nz := [planeSimilar6t_e5, planeSimilar6t_e12, planeSimilar6t_e15, planeSimilar6t_e21, planeSimilar6t_e20, planeSimilar6t_e37, (.z 2)]) (varsA σ) (nz_cons h1 (nz_cons h2 (nz_cons (ne_of_cmp h3 rfl) (nz_cons h6 (nz_cons h7 (nz_cons (ne_of_cmp h8 rfl) (nz_cons (two_ne _) nz_nil))))))) (by kernel_rfl))
          exact ⟨σ, planeSimilar6t_A13, up_eq, (orc_cmp h3 (orc_cmp h8 (orc_cmp h10 (orc_cmp h11 (orc_root h4 (orc_root h9 (orc_ne h0 (orc_ne h1 (orc_ne h2 (orc_ne h5 (orc_ne h6 (orc_ne h7 orc_nil)))))))))))), planeSimilar6t_p13⟩
      · replace h4 := not_ex h4
        by_cases h5 : RE.eval σ (.add (.v 6) (.sub (.v 5) (.v 1))) = RE.eval σ (.add (.v 6) (.sub (.v 5) (.v 5)))
        · have g5 := h5
          replace h5 := cmpR_zero.2 h5
          have h6 := ne_like (likeC (x := (.add (.v 7) (.sub (.v 0) (.v 4)))) (y := (.add (.v 7) (.sub (.v 4) (.v 4)))) (k := (.z 1)) (p := (.v 0)) (q := (.v 4)) (nz := [planeSimilar6t_e5, planeSimilar6t_e12, planeSimilar6t_e15, (.z 2)]) (varsA σ) (nz_cons h1 (nz_cons h2 (nz_cons (ne_of_cmp h3 rfl) (nz_cons (two_ne _) nz_nil)))) (by kernel_rfl)) (show ((1 : Int) : Rat) ≠ (0 : Rat) from by decide +kernel) h0
          have h7 := ne_like (likeC (x := planeSimilar6t_e21) (y := (.z 0)) (k := (.z 2)) (p := planeSimilar6t_e5) (q := (.z 0)) (nz := [planeSimilar6t_e5, planeSimilar6t_e12, planeSimilar6t_e15, (.z 2)]) (varsA σ) (nz_cons h1 (nz_cons h2 (nz_cons (ne_of_cmp h3 rfl) (nz_cons (two_ne _) nz_nil)))) (by kernel_rfl)) (show ((2 : Int) : Rat) ≠ (0 : Rat) from by decide +kernel) h1
          have h8 := ne_like (likeC (x := planeSimilar6t_e20) (y := (.z 0)) (k := (.z 1)) (p := planeSimilar6t_e5) (q := (.z 0)) (nz := [planeSimilar6t_e5, planeSimilar6t_e12, planeSimilar6t_e15, planeSimilar6t_e21, (.z 2)]) (varsA σ) (nz_cons h1 (nz_cons h2 (nz_cons (ne_of_cmp h3 rfl) (nz_cons h7 (nz_cons (two_ne _) nz_nil))))) (by kernel_rfl)) (show ((1 : Int) : Rat) ≠ (0 : Rat) from by decide +kernel) h1
          have h9 := cmpR_like (likeC (x := planeSimilar6t_e37) (y := (.z 0)) (k := (.z 1)) (p := planeSimilar6t_e15) (q := (.z 0)) (nz := [planeSimilar6t_e5, planeSimilar6t_e12, planeSimilar6t_e15, planeSimilar6t_e21, planeSimilar6t_e20, (.z 2)]) (varsA σ) (nz_cons h1 (nz_cons h2 (nz_cons (ne_of_cmp h3 rfl) (nz_cons h7 (nz_cons h8 (nz_cons (two_ne _) nz_nil)))))) (by kernel_rfl)) (show (0 : Rat) < ((1 : Int) : Rat) from by decide +kernel) h3
          have h10 := nosq_like (eqC (x := planeSimilar6t_e37) (y := planeSimilar6t_e15) (nz := [planeSimilar6t_e5, planeSimilar6t_e12, planeSimilar6t_e15, planeSimilar6t_e21, planeSimilar6t_e20, planeSimilar6t_e37, (.z 2)]) (varsA σ) (nz_cons h1 (nz_cons h2 (nz_cons (ne_of_cmp h3 rfl) (nz_cons h7 (nz_cons h8 (nz_cons (ne_of_cmp h9 rfl) (nz_cons (two_ne _) nz_nil))))))) (by kernel_rfl)) h4
          exact ⟨σ, planeSimilar6t_A14, up_eq, (orc_cmp h3 (orc_cmp h5 (orc_cmp h9 (orc_noroot h4 (orc_noroot h10 (orc_ne h0 (orc_ne h1 (orc_ne h2 (orc_ne h6 (orc_ne h7 (orc_ne h8 orc_nil))))))))))), planeSimilar6t_p14⟩
        · skip
          have h6 := ne_like (likeC (x := planeSimilar6t_e21) (y := (.z 0)) (k := (.z 2)) (p := planeSimilar6t_e5) (q := (.z 0)) (nz := [planeSimilar6t_e5, planeSimilar6t_e12, planeSimilar6t_e15, (.z 2)]) (varsA σ) (nz_cons h1 (nz_cons h2 (nz_cons (ne_of_cmp h3 rfl) (nz_cons (two_ne _) nz_nil)))) (by kernel_rfl)) (show ((2 : Int) : Rat) ≠ (0 : Rat) from by decide +kernel) h1
          have h7 := ne_like (likeC (x := planeSimilar6t_e20) (y := (.z 0)) (k := (.z 1)) (p := planeSimilar6t_e5) (q := (.z 0)) (nz := [planeSimilar6t_e5, planeSimilar6t_e12, planeSimilar6t_e15, planeSimilar6t_e21, (.z 2)]) (varsA σ) (nz_cons h1 (nz_cons h2 (nz_cons (ne_of_cmp h3 rfl) (nz_cons h6 (nz_cons (two_ne _) nz_nil))))) (by kernel_rfl)) (show ((1 : Int) : Rat) ≠ (0 : Rat) from by decide +kernel) h1
          have h8 := cmpR_like (likeC (x := planeSimilar6t_e37) (y := (.z 0)) (k := (.z 1)) (p := planeSimilar6t_e15) (q := (.z 0)) (nz := [planeSimilar6t_e5, planeSimilar6t_e12, planeSimilar6t_e15, planeSimilar6t_e21, planeSimilar6t_e20, (.z 2)]) (varsA σ) (nz_cons h1 (nz_cons h2 (nz_cons (ne_of_cmp h3 rfl) (nz_cons h6 (nz_cons h7 (nz_cons (two_ne _) nz_nil)))))) (by kernel_rfl)) (show (0 : Rat) < ((1 : Int) : Rat) from by decide +kernel) h3
          have h9 := nosq_like (eqC (x := planeSimilar6t_e37) (y := planeSimilar6t_e15) (nz := [planeSimilar6t_e5, planeSimilar6t_e12, planeSimilar6t_e15, planeSimilar6t_e21, planeSimilar6t_e20, planeSimilar6t_e37, (.z 2)]) (varsA σ) (nz_cons h1 (nz_cons h2 (nz_cons (ne_of_cmp h3 rfl) (nz_cons h6 (nz_cons h7 (nz_cons (ne_of_cmp h8 rfl) (nz_cons (two_ne _) nz_nil))))))) (by kernel_rfl)) h4
          exact ⟨σ, planeSimilar6t_A15, up_eq, (orc_cmp h3 (orc_cmp h8 (orc_noroot h4 (orc_noroot h9 (orc_ne h0 (orc_ne h1 (orc_ne h2 (orc_ne h5 (orc_ne h6 (orc_ne h7 orc_nil)))))))))), planeSimilar6t_p15⟩

theorem planeSimilar_q6 (fl : Bool) : LastOK Tryz.f10 (restN 3 (restN 3 (restN 3 (restN 3 (restN 3 (restN 4 planeSimilar_c)))))) (planeSimilar_k5 fl).vn 241 := by
  intro ρ
  cases fl
  · exact planeSimilar6f_dec ρ
  · exact planeSimilar6t_dec ρ
theorem planeSimilar_walk {W : World} (T : Tb W) {F : Nat → List Value} {fl : Bool} (hF : ∀ k, k < 9 → NumR W (F k)) :
    Calls Tryz.prog 10 #[.agg (join9 F 9 ++ [Value.bool fl]).toArray] W fun e w' => e = .returned (.bool true) ∧ W.grownBy w' none := by
  refine law13P (c := planeSimilar_c) Tryz.func10 Tryz.call10 (by kernel_rfl) (by kernel_rfl) T hF (fun k hk => ?_) fun hs ρ E a w Q h0 f0 hQ => ?_
  · match k, hk with
    | 0, _ => exact planeSimilar_no0 fl
    | 1, _ => exact planeSimilar_no1 fl
    | 2, _ => exact planeSimilar_no2 fl
    | 3, _ => exact planeSimilar_no3 fl
    | 4, _ => exact planeSimilar_no4 fl
    | 5, _ => exact planeSimilar_no5 fl
    | 6, _ => exact planeSimilar_no6 fl
    | 7, _ => exact planeSimilar_no7 fl
    | 8, _ => exact planeSimilar_no8 fl
  refine piece13 T hs (planeSimilar_q0 fl) (V13_sy fl _) (by kernel_rfl) h0 f0 fun E1 a1 w1 h1 f1 => ?_
  refine piece13 T hs (planeSimilar_q1 fl) (SyOK.of_keep (by kernel_rfl)) (by kernel_rfl) h1 f1 fun E2 a2 w2 h2 f2 => ?_
  refine piece13 T hs (planeSimilar_q2 fl) (SyOK.of_keep (by kernel_rfl)) (by kernel_rfl) h2 f2 fun E3 a3 w3 h3 f3 => ?_
  refine piece13 T hs (planeSimilar_q3 fl) (SyOK.of_keep (by kernel_rfl)) (by kernel_rfl) h3 f3 fun E4 a4 w4 h4 f4 => ?_
  refine piece13 T hs (planeSimilar_q4 fl) (SyOK.of_keep (by kernel_rfl)) (by kernel_rfl) h4 f4 fun E5 a5 w5 h5 f5 => ?_
  refine piece13 T hs (planeSimilar_q5 fl) (SyOK.of_keep (by kernel_rfl)) (by kernel_rfl) h5 f5 fun E6 a6 w6 h6 f6 => ?_
  exact last13 T hs (planeSimilar_q6 fl) (SyOK.of_keep (by kernel_rfl)) h6 f6 hQ
end Go.Proofs.YtgbfjneoieadmaaGreatDoor
