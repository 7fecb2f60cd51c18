/-
  CasesPlaneBranches, in one text.
-/
import Derived.Test.YtgbfjneoieadmaaGreatDoorMrQ

set_option linter.unusedVariables false
set_option linter.unusedSimpArgs false
namespace Go.Proofs.YtgbfjneoieadmaaGreatDoor
open Go.ChangeShapes Go.WideShapes Go.ChangeAt Go.RowKit Nm Go.Abs
open Go

theorem planeBranches_no0 (fl : Bool) : run13 {} (yesNo 0) 9 Tryz.f9 fix9 fl = yesR := by kernel_rfl
theorem planeBranches_no1 (fl : Bool) : run13 {} (yesNo 1) 9 Tryz.f9 fix9 fl = yesR := by kernel_rfl
theorem planeBranches_no2 (fl : Bool) : run13 {} (yesNo 2) 9 Tryz.f9 fix9 fl = yesR := by kernel_rfl
theorem planeBranches_no3 (fl : Bool) : run13 {} (yesNo 3) 9 Tryz.f9 fix9 fl = yesR := by kernel_rfl
theorem planeBranches_no4 (fl : Bool) : run13 {} (yesNo 4) 9 Tryz.f9 fix9 fl = yesR := by kernel_rfl
theorem planeBranches_no5 (fl : Bool) : run13 {} (yesNo 5) 9 Tryz.f9 fix9 fl = yesR := by kernel_rfl
theorem planeBranches_no6 (fl : Bool) : run13 {} (yesNo 6) 9 Tryz.f9 fix9 fl = yesR := by kernel_rfl
theorem planeBranches_no7 (fl : Bool) : run13 {} (yesNo 7) 9 Tryz.f9 fix9 fl = yesR := by kernel_rfl
theorem planeBranches_no8 (fl : Bool) : run13 {} (yesNo 8) 9 Tryz.f9 fix9 fl = yesR := by kernel_rfl
noncomputable def planeBranches_c : Code := bodyOf Tryz.f9
noncomputable def planeBranches_k0 (fl : Bool) : Keep KQ := { sl := [(1, .val false [.ptr 2 0])], bl := [(2, ⟨31, cells9 9 ++ [.lit (.bool fl)]⟩)], bx := [], ks := [(0, 0, .num 0 (.v 0) 2), (0, 1, .num 1 (.v 1) 2), (0, 2, .num 2 (.v 2) 2), (0, 3, .num 3 (.v 3) 2), (0, 4, .num 4 (.v 4) 2), (0, 5, .num 5 (.v 5) 2), (0, 6, .num 6 (.v 6) 2), (0, 7, .num 7 (.v 7) 2), (0, 8, .num 8 (.v 8) 2)], n := 184, ob := 2 }
def planeBranches0_e0 : RE := .mul (.sub (.v 2) (.v 0)) (.sub (.v 4) (.v 0))
def planeBranches0_e1 : RE := .mul (.sub (.v 3) (.v 1)) (.sub (.v 5) (.v 1))
def planeBranches0_e2 : RE := .add planeBranches0_e0 planeBranches0_e1
def planeBranches0_e3 : RE := .mul (.sub (.v 2) (.v 0)) (.sub (.v 2) (.v 0))
def planeBranches0_e4 : RE := .mul (.sub (.v 3) (.v 1)) (.sub (.v 3) (.v 1))
def planeBranches0_e5 : RE := .add planeBranches0_e3 planeBranches0_e4
def planeBranches0_e6 : RE := .div planeBranches0_e2 planeBranches0_e5
def planeBranches0_e7 : RE := .mul planeBranches0_e6 planeBranches0_e6
def planeBranches0_e8 : RE := .mul (.sub (.v 4) (.v 0)) (.sub (.v 4) (.v 0))
def planeBranches0_e9 : RE := .mul (.sub (.v 5) (.v 1)) (.sub (.v 5) (.v 1))
def planeBranches0_e10 : RE := .add planeBranches0_e8 planeBranches0_e9
def planeBranches0_e11 : RE := .mul (.sub (.v 6) (.v 4)) (.sub (.v 6) (.v 4))
def planeBranches0_e12 : RE := .mul (.sub (.v 7) (.v 5)) (.sub (.v 7) (.v 5))
def planeBranches0_e13 : RE := .add planeBranches0_e11 planeBranches0_e12
def planeBranches0_e14 : RE := .sub planeBranches0_e10 planeBranches0_e13
def planeBranches0_e15 : RE := .div planeBranches0_e14 planeBranches0_e5
def planeBranches0_e16 : RE := .sub planeBranches0_e7 planeBranches0_e15
def planeBranches0_e17 : RE := .add planeBranches0_e6 (.neg (.v 9))
def planeBranches0_e18 : RE := .mul planeBranches0_e17 (.sub (.v 3) (.v 1))
def planeBranches0_e19 : RE := .add (.v 1) planeBranches0_e18
def planeBranches0_e20 : RE := .sub planeBranches0_e19 (.v 1)
def planeBranches0_e21 : RE := .mul (.sub (.v 2) (.v 0)) planeBranches0_e20
def planeBranches0_e22 : RE := .mul planeBranches0_e17 (.sub (.v 2) (.v 0))
def planeBranches0_e23 : RE := .add (.v 0) planeBranches0_e22
def planeBranches0_e24 : RE := .sub planeBranches0_e23 (.v 0)
def planeBranches0_e25 : RE := .mul (.sub (.v 3) (.v 1)) planeBranches0_e24
def planeBranches0_e26 : RE := .sub planeBranches0_e21 planeBranches0_e25
def planeBranches0_e27 : RE := .add (.v 9) planeBranches0_e6
def planeBranches0_e28 : RE := .mul planeBranches0_e27 (.sub (.v 3) (.v 1))
def planeBranches0_e29 : RE := .add (.v 1) planeBranches0_e28
def planeBranches0_e30 : RE := .sub planeBranches0_e29 (.v 1)
def planeBranches0_e31 : RE := .mul (.sub (.v 2) (.v 0)) planeBranches0_e30
def planeBranches0_e32 : RE := .mul planeBranches0_e27 (.sub (.v 2) (.v 0))
def planeBranches0_e33 : RE := .add (.v 0) planeBranches0_e32
def planeBranches0_e34 : RE := .sub planeBranches0_e33 (.v 0)
def planeBranches0_e35 : RE := .mul (.sub (.v 3) (.v 1)) planeBranches0_e34
def planeBranches0_e36 : RE := .sub planeBranches0_e31 planeBranches0_e35
def planeBranches0_e37 : RE := .sub planeBranches0_e33 planeBranches0_e23
def planeBranches0_e38 : RE := .mul (.sub (.v 2) (.v 0)) planeBranches0_e37
def planeBranches0_e39 : RE := .sub planeBranches0_e29 planeBranches0_e19
def planeBranches0_e40 : RE := .mul (.sub (.v 3) (.v 1)) planeBranches0_e39
def planeBranches0_e41 : RE := .add planeBranches0_e38 planeBranches0_e40
def planeBranches0_e42 : RE := .sub planeBranches0_e23 (.v 4)
def planeBranches0_e43 : RE := .mul planeBranches0_e42 planeBranches0_e42
def planeBranches0_e44 : RE := .sub planeBranches0_e19 (.v 5)
def planeBranches0_e45 : RE := .mul planeBranches0_e44 planeBranches0_e44
def planeBranches0_e46 : RE := .add planeBranches0_e43 planeBranches0_e45
def planeBranches0_e47 : RE := .sub planeBranches0_e33 (.v 4)
def planeBranches0_e48 : RE := .mul planeBranches0_e47 planeBranches0_e47
def planeBranches0_e49 : RE := .sub planeBranches0_e29 (.v 5)
def planeBranches0_e50 : RE := .mul planeBranches0_e49 planeBranches0_e49
def planeBranches0_e51 : RE := .add planeBranches0_e48 planeBranches0_e50
def planeBranches0_A0 : Orc := { cmp := [((.v 0), (.v 2), 0), ((.v 1), (.v 3), 0)] }
theorem planeBranches0_p0 (fl : Bool) : (stepN Tryz.prog (ctrA planeBranches0_A0) 20 6 planeBranches_c (V13 fl Tryz.f9) 2).map (digest (planeBranches_k0 fl) 111) = some (planeBranches_k0 fl).want := by kernel_rfl
def planeBranches0_A1 : Orc := { cmp := [((.v 0), (.v 2), 0), (planeBranches0_e16, (.z 0), -1)], ne := [((.v 1), (.v 3)), (planeBranches0_e5, (.z 0))] }
theorem planeBranches0_p1 (fl : Bool) : (stepN Tryz.prog (ctrA planeBranches0_A1) 20 6 planeBranches_c (V13 fl Tryz.f9) 2).map (digest (planeBranches_k0 fl) 111) = some (planeBranches_k0 fl).want := by kernel_rfl
def planeBranches0_A2 : Orc := { cmp := [((.v 0), (.v 2), 0), (planeBranches0_e16, (.z 0), 0), (planeBranches0_e26, (.z 0), 0), (planeBranches0_e36, (.z 0), 0), (planeBranches0_e41, (.z 0), 0), (planeBranches0_e46, planeBranches0_e13, 0), (planeBranches0_e51, planeBranches0_e13, 0)], sq := [(planeBranches0_e16, some (.v 9))], ne := [((.v 1), (.v 3)), (planeBranches0_e5, (.z 0))] }
theorem planeBranches0_p2 (fl : Bool) : (stepN Tryz.prog (ctrA planeBranches0_A2) 20 6 planeBranches_c (V13 fl Tryz.f9) 2).map (digest (planeBranches_k0 fl) 111) = some (planeBranches_k0 fl).want := by kernel_rfl
def planeBranches0_A3 : Orc := { cmp := [((.v 0), (.v 2), 0), (planeBranches0_e16, (.z 0), 0), (planeBranches0_e26, (.z 0), 0), (planeBranches0_e36, (.z 0), 0), (planeBranches0_e41, (.z 0), 1), (planeBranches0_e46, planeBranches0_e13, 0), (planeBranches0_e51, planeBranches0_e13, 0)], sq := [(planeBranches0_e16, some (.v 9))], ne := [((.v 1), (.v 3)), (planeBranches0_e5, (.z 0))] }
theorem planeBranches0_p3 (fl : Bool) : (stepN Tryz.prog (ctrA planeBranches0_A3) 20 6 planeBranches_c (V13 fl Tryz.f9) 2).map (digest (planeBranches_k0 fl) 111) = some (planeBranches_k0 fl).want := by kernel_rfl
def planeBranches0_A4 : Orc := { cmp := [((.v 0), (.v 2), 0), (planeBranches0_e16, (.z 0), 0)], sq := [(planeBranches0_e16, none)], ne := [((.v 1), (.v 3)), (planeBranches0_e5, (.z 0))] }
theorem planeBranches0_p4 (fl : Bool) : (stepN Tryz.prog (ctrA planeBranches0_A4) 20 6 planeBranches_c (V13 fl Tryz.f9) 2).map (digest (planeBranches_k0 fl) 111) = some (planeBranches_k0 fl).want := by kernel_rfl
def planeBranches0_A5 : Orc := { cmp := [((.v 0), (.v 2), 0), (planeBranches0_e16, (.z 0), 1), (planeBranches0_e26, (.z 0), 0), (planeBranches0_e36, (.z 0), 0), (planeBranches0_e41, (.z 0), 0), (planeBranches0_e46, planeBranches0_e13, 0), (planeBranches0_e51, planeBranches0_e13, 0)], sq := [(planeBranches0_e16, some (.v 9))], ne := [((.v 1), (.v 3)), (planeBranches0_e5, (.z 0))] }
theorem planeBranches0_p5 (fl : Bool) : (stepN Tryz.prog (ctrA planeBranches0_A5) 20 6 planeBranches_c (V13 fl Tryz.f9) 2).map (digest (planeBranches_k0 fl) 111) = some (planeBranches_k0 fl).want := by kernel_rfl
def planeBranches0_A6 : Orc := { cmp := [((.v 0), (.v 2), 0), (planeBranches0_e16, (.z 0), 1), (planeBranches0_e26, (.z 0), 0), (planeBranches0_e36, (.z 0), 0), (planeBranches0_e41, (.z 0), 1), (planeBranches0_e46, planeBranches0_e13, 0), (planeBranches0_e51, planeBranches0_e13, 0)], sq := [(planeBranches0_e16, some (.v 9))], ne := [((.v 1), (.v 3)), (planeBranches0_e5, (.z 0))] }
theorem planeBranches0_p6 (fl : Bool) : (stepN Tryz.prog (ctrA planeBranches0_A6) 20 6 planeBranches_c (V13 fl Tryz.f9) 2).map (digest (planeBranches_k0 fl) 111) = some (planeBranches_k0 fl).want := by kernel_rfl
def planeBranches0_A7 : Orc := { cmp := [((.v 0), (.v 2), 0), (planeBranches0_e16, (.z 0), 1)], sq := [(planeBranches0_e16, none)], ne := [((.v 1), (.v 3)), (planeBranches0_e5, (.z 0))] }
theorem planeBranches0_p7 (fl : Bool) : (stepN Tryz.prog (ctrA planeBranches0_A7) 20 6 planeBranches_c (V13 fl Tryz.f9) 2).map (digest (planeBranches_k0 fl) 111) = some (planeBranches_k0 fl).want := by kernel_rfl
def planeBranches0_A8 : Orc := { cmp := [(planeBranches0_e16, (.z 0), -1)], ne := [((.v 0), (.v 2)), (planeBranches0_e5, (.z 0))] }
theorem planeBranches0_p8 (fl : Bool) : (stepN Tryz.prog (ctrA planeBranches0_A8) 20 6 planeBranches_c (V13 fl Tryz.f9) 2).map (digest (planeBranches_k0 fl) 111) = some (planeBranches_k0 fl).want := by kernel_rfl
def planeBranches0_A9 : Orc := { cmp := [(planeBranches0_e16, (.z 0), 0), (planeBranches0_e26, (.z 0), 0), (planeBranches0_e36, (.z 0), 0), (planeBranches0_e41, (.z 0), 0), (planeBranches0_e46, planeBranches0_e13, 0), (planeBranches0_e51, planeBranches0_e13, 0)], sq := [(planeBranches0_e16, some (.v 9))], ne := [((.v 0), (.v 2)), (planeBranches0_e5, (.z 0))] }
theorem planeBranches0_p9 (fl : Bool) : (stepN Tryz.prog (ctrA planeBranches0_A9) 20 6 planeBranches_c (V13 fl Tryz.f9) 2).map (digest (planeBranches_k0 fl) 111) = some (planeBranches_k0 fl).want := by kernel_rfl
def planeBranches0_A10 : Orc := { cmp := [(planeBranches0_e16, (.z 0), 0), (planeBranches0_e26, (.z 0), 0), (planeBranches0_e36, (.z 0), 0), (planeBranches0_e41, (.z 0), 1), (planeBranches0_e46, planeBranches0_e13, 0), (planeBranches0_e51, planeBranches0_e13, 0)], sq := [(planeBranches0_e16, some (.v 9))], ne := [((.v 0), (.v 2)), (planeBranches0_e5, (.z 0))] }
theorem planeBranches0_p10 (fl : Bool) : (stepN Tryz.prog (ctrA planeBranches0_A10) 20 6 planeBranches_c (V13 fl Tryz.f9) 2).map (digest (planeBranches_k0 fl) 111) = some (planeBranches_k0 fl).want := by kernel_rfl
def planeBranches0_A11 : Orc := { cmp := [(planeBranches0_e16, (.z 0), 0)], sq := [(planeBranches0_e16, none)], ne := [((.v 0), (.v 2)), (planeBranches0_e5, (.z 0))] }
theorem planeBranches0_p11 (fl : Bool) : (stepN Tryz.prog (ctrA planeBranches0_A11) 20 6 planeBranches_c (V13 fl Tryz.f9) 2).map (digest (planeBranches_k0 fl) 111) = some (planeBranches_k0 fl).want := by kernel_rfl
def planeBranches0_A12 : Orc := { cmp := [(planeBranches0_e16, (.z 0), 1), (planeBranches0_e26, (.z 0), 0), (planeBranches0_e36, (.z 0), 0), (planeBranches0_e41, (.z 0), 0), (planeBranches0_e46, planeBranches0_e13, 0), (planeBranches0_e51, planeBranches0_e13, 0)], sq := [(planeBranches0_e16, some (.v 9))], ne := [((.v 0), (.v 2)), (planeBranches0_e5, (.z 0))] }
theorem planeBranches0_p12 (fl : Bool) : (stepN Tryz.prog (ctrA planeBranches0_A12) 20 6 planeBranches_c (V13 fl Tryz.f9) 2).map (digest (planeBranches_k0 fl) 111) = some (planeBranches_k0 fl).want := by kernel_rfl
def planeBranches0_A13 : Orc := { cmp := [(planeBranches0_e16, (.z 0), 1), (planeBranches0_e26, (.z 0), 0), (planeBranches0_e36, (.z 0), 0), (planeBranches0_e41, (.z 0), 1), (planeBranches0_e46, planeBranches0_e13, 0), (planeBranches0_e51, planeBranches0_e13, 0)], sq := [(planeBranches0_e16, some (.v 9))], ne := [((.v 0), (.v 2)), (planeBranches0_e5, (.z 0))] }
theorem planeBranches0_p13 (fl : Bool) : (stepN Tryz.prog (ctrA planeBranches0_A13) 20 6 planeBranches_c (V13 fl Tryz.f9) 2).map (digest (planeBranches_k0 fl) 111) = some (planeBranches_k0 fl).want := by kernel_rfl
def planeBranches0_A14 : Orc := { cmp := [(planeBranches0_e16, (.z 0), 1)], sq := [(planeBranches0_e16, none)], ne := [((.v 0), (.v 2)), (planeBranches0_e5, (.z 0))] }
theorem planeBranches0_p14 (fl : Bool) : (stepN Tryz.prog (ctrA planeBranches0_A14) 20 6 planeBranches_c (V13 fl Tryz.f9) 2).map (digest (planeBranches_k0 fl) 111) = some (planeBranches_k0 fl).want := by kernel_rfl
theorem planeBranches0_dec (ρ : Nat → Rat) (fl : Bool) : ∃ (ρ' : Nat → Rat) (A : Orc), (∀ k, k < 9 → ρ' k = ρ k) ∧ A.OK ρ' ∧ (stepN Tryz.prog (ctrA A) 20 6 planeBranches_c (V13 fl Tryz.f9) 2).map (digest (planeBranches_k0 fl) 111) = some (planeBranches_k0 fl).want := by
  refine ex_up ρ planeBranches0_e16 (by kernel_rfl) fun σ up_eq up_root => ?_
  by_cases h0 : RE.eval σ (.v 0) = RE.eval σ (.v 2)
  · have g0 := h0
    replace h0 := cmpR_zero.2 h0
    by_cases h1 : RE.eval σ (.v 1) = RE.eval σ (.v 3)
    · have g1 := h1
      replace h1 := cmpR_zero.2 h1
      exact ⟨σ, planeBranches0_A0, up_eq, (orc_cmp h0 (orc_cmp h1 orc_nil)), planeBranches0_p0 fl⟩
    · skip
      have h2 := normC (b := planeBranches0_e5) (x := (.v 1)) (y := (.v 3)) (f := (.sub (.v 2) (.v 0))) (nz := [(.z 2)]) (varsA_2 σ g0.symm) (nz_cons (two_ne _) nz_nil) (by kernel_rfl) h1
      rcases cmpR_bound (RE.eval σ planeBranches0_e16) (RE.eval σ (.z 0)) with h3 | h3 | h3
      · skip
        exact ⟨σ, planeBranches0_A1, up_eq, (orc_cmp h0 (orc_cmp h3 (orc_ne h1 (orc_ne h2 orc_nil)))), planeBranches0_p1 fl⟩
      · skip
        by_cases h4 : ∃ s : Rat, RE.eval σ planeBranches0_e16 = s * s
        · replace h4 := up_root h4
          have h5 := cmpR_zero.2 (eqC (x := planeBranches0_e26) (y := (.z 0)) (nz := [planeBranches0_e5, (.z 2)]) (varsA_2 σ g0.symm) (nz_cons h2 (nz_cons (two_ne _) nz_nil)) (by kernel_rfl))
          have h6 := cmpR_zero.2 (eqC (x := planeBranches0_e36) (y := (.z 0)) (nz := [planeBranches0_e5, (.z 2)]) (varsA_2 σ g0.symm) (nz_cons h2 (nz_cons (two_ne _) nz_nil)) (by kernel_rfl))
          rcases cmpR_bound (RE.eval σ planeBranches0_e41) (RE.eval σ (.z 0)) with h7 | h7 | h7
          · skip
            exact (nnegC (x := planeBranches0_e41) (s := .v 9) (p := (.sub (.v 2) (.v 0))) (q := (.sub (.v 3) (.v 1))) (k := 2) (nz := [planeBranches0_e5, (.z 2)]) (varsA_2 σ g0.symm) (nz_cons h2 (nz_cons (two_ne _) nz_nil)) (by kernel_rfl) (by decide) h4.2 h7).elim
          · skip
            have h8 := cmpR_zero.2 (eqC1 (x := planeBranches0_e46) (y := planeBranches0_e13) (c := planeBranches0_e5) (p := .mul (.v 9) (.v 9)) (q := planeBranches0_e16) (nz := [planeBranches0_e5, (.z 2)]) (varsA_2 σ g0.symm) (nz_cons h2 (nz_cons (two_ne _) nz_nil)) h4.1.symm (by kernel_rfl))
            have h9 := cmpR_zero.2 (eqC1 (x := planeBranches0_e51) (y := planeBranches0_e13) (c := planeBranches0_e5) (p := .mul (.v 9) (.v 9)) (q := planeBranches0_e16) (nz := [planeBranches0_e5, (.z 2)]) (varsA_2 σ g0.symm) (nz_cons h2 (nz_cons (two_ne _) nz_nil)) h4.1.symm (by kernel_rfl))
            exact ⟨σ, planeBranches0_A2, up_eq, (orc_cmp h0 (orc_cmp h3 (orc_cmp h5 (orc_cmp h6 (orc_cmp h7 (orc_cmp h8 (orc_cmp h9 (orc_root h4 (orc_ne h1 (orc_ne h2 orc_nil)))))))))), planeBranches0_p2 fl⟩
          · skip
            have h8 := cmpR_zero.2 (eqC1 (x := planeBranches0_e46) (y := planeBranches0_e13) (c := planeBranches0_e5) (p := .mul (.v 9) (.v 9)) (q := planeBranches0_e16) (nz := [planeBranches0_e5, planeBranches0_e41, (.z 2)]) (varsA_2 σ g0.symm) (nz_cons h2 (nz_cons (ne_of_cmp h7 rfl) (nz_cons (two_ne _) nz_nil))) h4.1.symm (by kernel_rfl))
            have h9 := cmpR_zero.2 (eqC1 (x := planeBranches0_e51) (y := planeBranches0_e13) (c := planeBranches0_e5) (p := .mul (.v 9) (.v 9)) (q := planeBranches0_e16) (nz := [planeBranches0_e5, planeBranches0_e41, (.z 2)]) (varsA_2 σ g0.symm) (nz_cons h2 (nz_cons (ne_of_cmp h7 rfl) (nz_cons (two_ne _) nz_nil))) h4.1.symm (by kernel_rfl))
            exact ⟨σ, planeBranches0_A3, up_eq, (orc_cmp h0 (orc_cmp h3 (orc_cmp h5 (orc_cmp h6 (orc_cmp h7 (orc_cmp h8 (orc_cmp h9 (orc_root h4 (orc_ne h1 (orc_ne h2 orc_nil)))))))))), planeBranches0_p3 fl⟩
        · replace h4 := not_ex h4
          exact ⟨σ, planeBranches0_A4, up_eq, (orc_cmp h0 (orc_cmp h3 (orc_noroot h4 (orc_ne h1 (orc_ne h2 orc_nil))))), planeBranches0_p4 fl⟩
      · skip
        by_cases h4 : ∃ s : Rat, RE.eval σ planeBranches0_e16 = s * s
        · replace h4 := up_root h4
          have h5 := cmpR_zero.2 (eqC (x := planeBranches0_e26) (y := (.z 0)) (nz := [planeBranches0_e5, planeBranches0_e16, (.z 2)]) (varsA_2 σ g0.symm) (nz_cons h2 (nz_cons (ne_of_cmp h3 rfl) (nz_cons (two_ne _) nz_nil))) (by kernel_rfl))
          have h6 := cmpR_zero.2 (eqC (x := planeBranches0_e36) (y := (.z 0)) (nz := [planeBranches0_e5, planeBranches0_e16, (.z 2)]) (varsA_2 σ g0.symm) (nz_cons h2 (nz_cons (ne_of_cmp h3 rfl) (nz_cons (two_ne _) nz_nil))) (by kernel_rfl))
          rcases cmpR_bound (RE.eval σ planeBranches0_e41) (RE.eval σ (.z 0)) with h7 | h7 | h7
          · skip
            exact (nnegC (x := planeBranches0_e41) (s := .v 9) (p := (.sub (.v 2) (.v 0))) (q := (.sub (.v 3) (.v 1))) (k := 2) (nz := [planeBranches0_e5, planeBranches0_e16, (.z 2)]) (varsA_2 σ g0.symm) (nz_cons h2 (nz_cons (ne_of_cmp h3 rfl) (nz_cons (two_ne _) nz_nil))) (by kernel_rfl) (by decide) h4.2 h7).elim
          · skip
            have h8 := cmpR_zero.2 (eqC1 (x := planeBranches0_e46) (y := planeBranches0_e13) (c := planeBranches0_e5) (p := .mul (.v 9) (.v 9)) (q := planeBranches0_e16) (nz := [planeBranches0_e5, planeBranches0_e16, (.z 2)]) (varsA_2 σ g0.symm) (nz_cons h2 (nz_cons (ne_of_cmp h3 rfl) (nz_cons (two_ne _) nz_nil))) h4.1.symm (by kernel_rfl))
            have h9 := cmpR_zero.2 (eqC1 (x := planeBranches0_e51) (y := planeBranches0_e13) (c := planeBranches0_e5) (p := .mul (.v 9) (.v 9)) (q := planeBranches0_e16) (nz := [planeBranches0_e5, planeBranches0_e16, (.z 2)]) (varsA_2 σ g0.symm) (nz_cons h2 (nz_cons (ne_of_cmp h3 rfl) (nz_cons (two_ne _) nz_nil))) h4.1.symm (by kernel_rfl))
            exact ⟨σ, planeBranches0_A5, up_eq, (orc_cmp h0 (orc_cmp h3 (orc_cmp h5 (orc_cmp h6 (orc_cmp h7 (orc_cmp h8 (orc_cmp h9 (orc_root h4 (orc_ne h1 (orc_ne h2 orc_nil)))))))))), planeBranches0_p5 fl⟩
          · skip
            have h8 := cmpR_zero.2 (eqC1 (x := planeBranches0_e46) (y := planeBranches0_e13) (c := planeBranches0_e5) (p := .mul (.v 9) (.v 9)) (q := planeBranches0_e16) (nz := [planeBranches0_e5, planeBranches0_e16, planeBranches0_e41, (.z 2)]) (varsA_2 σ g0.symm) (nz_cons h2 (nz_cons (ne_of_cmp h3 rfl) (nz_cons (ne_of_cmp h7 rfl) (nz_cons (two_ne _) nz_nil)))) h4.1.symm (by kernel_rfl))
            have h9 := cmpR_zero.2 (eqC1 (x := planeBranches0_e51) (y := planeBranches0_e13) (c := planeBranches0_e5) (p := .mul (.v 9) (.v 9)) (q := planeBranches0_e16) (nz := [planeBranches0_e5, planeBranches0_e16, planeBranches0_e41, (.z 2)]) (varsA_2 σ g0.symm) (nz_cons h2 (nz_cons (ne_of_cmp h3 rfl) (nz_cons (ne_of_cmp h7 rfl) (nz_cons (two_ne _) nz_nil)))) h4.1.symm (by kernel_rfl))
            exact ⟨σ, planeBranches0_A6, up_eq, (orc_cmp h0 (orc_cmp h3 (orc_cmp h5 (orc_cmp h6 (orc_cmp h7 (orc_cmp h8 (orc_cmp h9 (orc_root h4 (orc_ne h1 (orc_ne h2 orc_nil)))))))))), planeBranches0_p6 fl⟩
        · replace h4 := not_ex h4
          exact ⟨σ, planeBranches0_A7, up_eq, (orc_cmp h0 (orc_cmp h3 (orc_noroot h4 (orc_ne h1 (orc_ne h2 orc_nil))))), planeBranches0_p7 fl⟩
  · skip
    have h1 := normC (b := planeBranches0_e5) (x := (.v 0)) (y := (.v 2)) (f := (.sub (.v 3) (.v 1))) (nz := [(.z 2)]) (varsA σ) (nz_cons (two_ne _) nz_nil) (by kernel_rfl) h0
    rcases cmpR_bound (RE.eval σ planeBranches0_e16) (RE.eval σ (.z 0)) with h2 | h2 | h2
    · skip
      exact ⟨σ, planeBranches0_A8, up_eq, (orc_cmp h2 (orc_ne h0 (orc_ne h1 orc_nil))), planeBranches0_p8 fl⟩
    · skip
      by_cases h3 : ∃ s : Rat, RE.eval σ planeBranches0_e16 = s * s
      · replace h3 := up_root h3
        have h4 := cmpR_zero.2 (eqC (x := planeBranches0_e26) (y := (.z 0)) (nz := [planeBranches0_e5, (.z 2)]) (varsA σ) (nz_cons h1 (nz_cons (two_ne _) nz_nil)) (by kernel_rfl))
        have h5 := cmpR_zero.2 (eqC (x := planeBranches0_e36) (y := (.z 0)) (nz := [planeBranches0_e5, (.z 2)]) (varsA σ) (nz_cons h1 (nz_cons (two_ne _) nz_nil)) (by kernel_rfl))
        rcases cmpR_bound (RE.eval σ planeBranches0_e41) (RE.eval σ (.z 0)) with h6 | h6 | h6
        · skip
          exact (nnegC (x := planeBranches0_e41) (s := .v 9) (p := (.sub (.v 2) (.v 0))) (q := (.sub (.v 3) (.v 1))) (k := 2) (nz := [planeBranches0_e5, (.z 2)]) (varsA σ) (nz_cons h1 (nz_cons (two_ne _) nz_nil)) (by kernel_rfl) (by decide) h3.2 h6).elim
        · skip
          have h7 := cmpR_zero.2 (eqC1 (x := planeBranches0_e46) (y := planeBranches0_e13) (c := planeBranches0_e5) (p := .mul (.v 9) (.v 9)) (q := planeBranches0_e16) (nz := [planeBranches0_e5, (.z 2)]) (varsA σ) (nz_cons h1 (nz_cons (two_ne _) nz_nil)) h3.1.symm (by kernel_rfl))
          have h8 := cmpR_zero.2 (eqC1 (x := planeBranches0_e51) (y := planeBranches0_e13) (c := planeBranches0_e5) (p := .mul (.v 9) (.v 9)) (q := planeBranches0_e16) (nz := [planeBranches0_e5, (.z 2)]) (varsA σ) (nz_cons h1 (nz_cons (two_ne _) nz_nil)) h3.1.symm (by kernel_rfl))
          exact ⟨σ, planeBranches0_A9, up_eq, (orc_cmp h2 (orc_cmp h4 (orc_cmp h5 (orc_cmp h6 (orc_cmp h7 (orc_cmp h8 (orc_root h3 (orc_ne h0 (orc_ne h1 orc_nil))))))))), planeBranches0_p9 fl⟩
        · skip
          have h7 := cmpR_zero.2 (eqC1 (x := planeBranches0_e46) (y := planeBranches0_e13) (c := planeBranches0_e5) (p := .mul (.v 9) (.v 9)) (q := planeBranches0_e16) (nz := [planeBranches0_e5, planeBranches0_e41, (.z 2)]) (varsA σ) (nz_cons h1 (nz_cons (ne_of_cmp h6 rfl) (nz_cons (two_ne _) nz_nil))) h3.1.symm (by kernel_rfl))
          have h8 := cmpR_zero.2 (eqC1 (x := planeBranches0_e51) (y := planeBranches0_e13) (c := planeBranches0_e5) (p := .mul (.v 9) (.v 9)) (q := planeBranches0_e16) (nz := [planeBranches0_e5, planeBranches0_e41, (.z 2)]) (varsA σ) (nz_cons h1 (nz_cons (ne_of_cmp h6 rfl) (nz_cons (two_ne _) nz_nil))) h3.1.symm (by kernel_rfl))
          exact ⟨σ, planeBranches0_A10, up_eq, (orc_cmp h2 (orc_cmp h4 (orc_cmp h5 (orc_cmp h6 (orc_cmp h7 (orc_cmp h8 (orc_root h3 (orc_ne h0 (orc_ne h1 orc_nil))))))))), planeBranches0_p10 fl⟩
      · replace h3 := not_ex h3
        exact ⟨σ, planeBranches0_A11, up_eq, (orc_cmp h2 (orc_noroot h3 (orc_ne h0 (orc_ne h1 orc_nil)))), planeBranches0_p11 fl⟩
    · skip
      by_cases h3 : ∃ s : Rat, RE.eval σ planeBranches0_e16 = s * s
      · replace h3 := up_root h3
        have h4 := cmpR_zero.2 (eqC (x := planeBranches0_e26) (y := (.z 0)) (nz := [planeBranches0_e5, planeBranches0_e16, (.z 2)]) (varsA σ) (nz_cons h1 (nz_cons (ne_of_cmp h2 rfl) (nz_cons (two_ne _) nz_nil))) (by kernel_rfl))
        have h5 := cmpR_zero.2 (eqC (x := planeBranches0_e36) (y := (.z 0)) (nz := [planeBranches0_e5, planeBranches0_e16, (.z 2)]) (varsA σ) (nz_cons h1 (nz_cons (ne_of_cmp h2 rfl) (nz_cons (two_ne _) nz_nil))) (by kernel_rfl))
        rcases cmpR_bound (RE.eval σ planeBranches0_e41) (RE.eval σ (.z 0)) with h6 | h6 | h6
        · skip
          exact (nnegC (x := planeBranches0_e41) (s := .v 9) (p := (.sub (.v 2) (.v 0))) (q := (.sub (.v 3) (.v 1))) (k := 2) (nz := [planeBranches0_e5, planeBranches0_e16, (.z 2)]) (varsA σ) (nz_cons h1 (nz_cons (ne_of_cmp h2 rfl) (nz_cons (two_ne _) nz_nil))) (by kernel_rfl) (by decide) h3.2 h6).elim
        · skip
          have h7 := cmpR_zero.2 (eqC1 (x := planeBranches0_e46) (y := planeBranches0_e13) (c := planeBranches0_e5) (p := .mul (.v 9) (.v 9)) (q := planeBranches0_e16) (nz := [planeBranches0_e5, planeBranches0_e16, (.z 2)]) (varsA σ) (nz_cons h1 (nz_cons (ne_of_cmp h2 rfl) (nz_cons (two_ne _) nz_nil))) h3.1.symm (by kernel_rfl))
          have h8 := cmpR_zero.2 (eqC1 (x := planeBranches0_e51) (y := planeBranches0_e13) (c := planeBranches0_e5) (p := .mul (.v 9) (.v 9)) (q := planeBranches0_e16) (nz := [planeBranches0_e5, planeBranches0_e16, (.z 2)]) (varsA σ) (nz_cons h1 (nz_cons (ne_of_cmp h2 rfl) (nz_cons (two_ne _) nz_nil))) h3.1.symm (by kernel_rfl))
          exact ⟨σ, planeBranches0_A12, up_eq, (orc_cmp h2 (orc_cmp h4 (orc_cmp h5 (orc_cmp h6 (orc_cmp h7 (orc_cmp h8 (orc_root h3 (orc_ne h0 (orc_ne h1 orc_nil))))))))), planeBranches0_p12 fl⟩
        · skip
          have h7 := cmpR_zero.2 (eqC1 (x := planeBranches0_e46) (y := planeBranches0_e13) (c := planeBranches0_e5) (p := .mul (.v 9) (.v 9)) (q := planeBranches0_e16) (nz := [planeBranches0_e5, planeBranches0_e16, planeBranches0_e41, (.z 2)]) (varsA σ) (nz_cons h1 (nz_cons (ne_of_cmp h2 rfl) (nz_cons (ne_of_cmp h6 rfl) (nz_cons (two_ne _) nz_nil)))) h3.1.symm (by kernel_rfl))
          have h8 := cmpR_zero.2 (eqC1 (x := planeBranches0_e51) (y := planeBranches0_e13) (c := planeBranches0_e5) (p := .mul (.v 9) (.v 9)) (q := planeBranches0_e16) (nz := [planeBranches0_e5, planeBranches0_e16, planeBranches0_e41, (.z 2)]) (varsA σ) (nz_cons h1 (nz_cons (ne_of_cmp h2 rfl) (nz_cons (ne_of_cmp h6 rfl) (nz_cons (two_ne _) nz_nil)))) h3.1.symm (by kernel_rfl))
          exact ⟨σ, planeBranches0_A13, up_eq, (orc_cmp h2 (orc_cmp h4 (orc_cmp h5 (orc_cmp h6 (orc_cmp h7 (orc_cmp h8 (orc_root h3 (orc_ne h0 (orc_ne h1 orc_nil))))))))), planeBranches0_p13 fl⟩
      · replace h3 := not_ex h3
        exact ⟨σ, planeBranches0_A14, up_eq, (orc_cmp h2 (orc_noroot h3 (orc_ne h0 (orc_ne h1 orc_nil)))), planeBranches0_p14 fl⟩

theorem planeBranches_q0 (fl : Bool) : PieceOK planeBranches_c (V13 fl Tryz.f9) 2 6 (planeBranches_k0 fl) 111 := fun ρ => planeBranches0_dec ρ fl
def planeBranches1_e0 : RE := .mul (.sub (.v 2) (.v 0)) (.sub (.v 2) (.v 0))
def planeBranches1_e1 : RE := .mul (.sub (.v 3) (.v 1)) (.sub (.v 3) (.v 1))
def planeBranches1_e2 : RE := .add planeBranches1_e0 planeBranches1_e1
def planeBranches1_e3 : RE := .mul (.sub (.v 4) (.v 0)) (.sub (.v 4) (.v 0))
def planeBranches1_e4 : RE := .mul (.sub (.v 5) (.v 1)) (.sub (.v 5) (.v 1))
def planeBranches1_e5 : RE := .add planeBranches1_e3 planeBranches1_e4
def planeBranches1_e6 : RE := .div planeBranches1_e2 planeBranches1_e5
def planeBranches1_e7 : RE := .add planeBranches1_e2 planeBranches1_e5
def planeBranches1_e8 : RE := .mul (.sub (.v 6) (.v 4)) (.sub (.v 6) (.v 4))
def planeBranches1_e9 : RE := .mul (.sub (.v 7) (.v 5)) (.sub (.v 7) (.v 5))
def planeBranches1_e10 : RE := .add planeBranches1_e8 planeBranches1_e9
def planeBranches1_e11 : RE := .sub planeBranches1_e7 planeBranches1_e10
def planeBranches1_e12 : RE := .mul (.z 2) planeBranches1_e5
def planeBranches1_e13 : RE := .div planeBranches1_e11 planeBranches1_e12
def planeBranches1_e14 : RE := .mul planeBranches1_e13 planeBranches1_e13
def planeBranches1_e15 : RE := .sub planeBranches1_e6 planeBranches1_e14
def planeBranches1_e16 : RE := .mul (.sub (.v 4) (.v 0)) planeBranches1_e13
def planeBranches1_e17 : RE := .add (.v 0) planeBranches1_e16
def planeBranches1_e18 : RE := .add planeBranches1_e17 (.mul (.v 9) (.sub (.v 1) (.v 5)))
def planeBranches1_e19 : RE := .sub planeBranches1_e18 (.v 0)
def planeBranches1_e20 : RE := .mul (.sub (.v 4) (.v 0)) planeBranches1_e19
def planeBranches1_e21 : RE := .mul (.sub (.v 5) (.v 1)) planeBranches1_e13
def planeBranches1_e22 : RE := .add (.v 1) planeBranches1_e21
def planeBranches1_e23 : RE := .add planeBranches1_e22 (.mul (.v 9) (.sub (.v 4) (.v 0)))
def planeBranches1_e24 : RE := .sub planeBranches1_e23 (.v 1)
def planeBranches1_e25 : RE := .mul (.sub (.v 5) (.v 1)) planeBranches1_e24
def planeBranches1_e26 : RE := .add planeBranches1_e20 planeBranches1_e25
def planeBranches1_e27 : RE := .div planeBranches1_e26 planeBranches1_e5
def planeBranches1_e28 : RE := .mul (.sub (.v 4) (.v 0)) planeBranches1_e27
def planeBranches1_e29 : RE := .add (.v 0) planeBranches1_e28
def planeBranches1_e30 : RE := .sub planeBranches1_e29 planeBranches1_e18
def planeBranches1_e31 : RE := .add planeBranches1_e29 planeBranches1_e30
def planeBranches1_e32 : RE := .mul (.sub (.v 1) (.v 5)) (.neg (.v 9))
def planeBranches1_e33 : RE := .add planeBranches1_e17 planeBranches1_e32
def planeBranches1_e34 : RE := .mul (.sub (.v 5) (.v 1)) planeBranches1_e27
def planeBranches1_e35 : RE := .add (.v 1) planeBranches1_e34
def planeBranches1_e36 : RE := .sub planeBranches1_e35 planeBranches1_e23
def planeBranches1_e37 : RE := .add planeBranches1_e35 planeBranches1_e36
def planeBranches1_e38 : RE := .mul (.sub (.v 4) (.v 0)) (.neg (.v 9))
def planeBranches1_e39 : RE := .add planeBranches1_e22 planeBranches1_e38
def planeBranches1_e40 : RE := .mul (.sub (.v 4) (.v 0)) planeBranches1_e24
def planeBranches1_e41 : RE := .mul (.sub (.v 5) (.v 1)) planeBranches1_e19
def planeBranches1_e42 : RE := .sub planeBranches1_e40 planeBranches1_e41
def planeBranches1_e43 : RE := .sub planeBranches1_e39 (.v 1)
def planeBranches1_e44 : RE := .mul (.sub (.v 4) (.v 0)) planeBranches1_e43
def planeBranches1_e45 : RE := .sub planeBranches1_e33 (.v 0)
def planeBranches1_e46 : RE := .mul (.sub (.v 5) (.v 1)) planeBranches1_e45
def planeBranches1_e47 : RE := .sub planeBranches1_e44 planeBranches1_e46
def planeBranches1_e48 : RE := .mul planeBranches1_e19 planeBranches1_e19
def planeBranches1_e49 : RE := .mul planeBranches1_e24 planeBranches1_e24
def planeBranches1_e50 : RE := .add planeBranches1_e48 planeBranches1_e49
def planeBranches1_e51 : RE := .sub planeBranches1_e18 (.v 4)
def planeBranches1_e52 : RE := .mul planeBranches1_e51 planeBranches1_e51
def planeBranches1_e53 : RE := .sub planeBranches1_e23 (.v 5)
def planeBranches1_e54 : RE := .mul planeBranches1_e53 planeBranches1_e53
def planeBranches1_e55 : RE := .add planeBranches1_e52 planeBranches1_e54
def planeBranches1_A0 : Orc := { cmp := [((.v 0), (.v 4), 0), ((.v 1), (.v 5), 0)] }
theorem planeBranches1_p0 (fl : Bool) : (acode Tryz.prog (ctrA planeBranches1_A0) 20 (restN 6 planeBranches_c) (planeBranches_k0 fl).vn 111).map (fin Tryz.f9) = yesF := by kernel_rfl
def planeBranches1_A1 : Orc := { cmp := [((.v 0), (.v 4), 0), (planeBranches1_e15, (.z 0), -1)], ne := [((.v 1), (.v 5)), (planeBranches1_e5, (.z 0)), (planeBranches1_e12, (.z 0))] }
theorem planeBranches1_p1 (fl : Bool) : (acode Tryz.prog (ctrA planeBranches1_A1) 20 (restN 6 planeBranches_c) (planeBranches_k0 fl).vn 111).map (fin Tryz.f9) = yesF := by kernel_rfl
def planeBranches1_A2 : Orc := { cmp := [((.v 0), (.v 4), 0), (planeBranches1_e15, (.z 0), 0), (planeBranches1_e31, planeBranches1_e33, 0), (planeBranches1_e37, planeBranches1_e39, 0), (planeBranches1_e42, (.z 0), 0), (planeBranches1_e47, (.z 0), 0), (planeBranches1_e50, planeBranches1_e2, 0), (planeBranches1_e55, planeBranches1_e10, 0)], sq := [(planeBranches1_e15, some (.v 9))], ne := [((.v 1), (.v 5)), (planeBranches1_e5, (.z 0)), (planeBranches1_e12, (.z 0))] }
theorem planeBranches1_p2 (fl : Bool) : (acode Tryz.prog (ctrA planeBranches1_A2) 20 (restN 6 planeBranches_c) (planeBranches_k0 fl).vn 111).map (fin Tryz.f9) = yesF := by kernel_rfl
def planeBranches1_A3 : Orc := { cmp := [((.v 0), (.v 4), 0), (planeBranches1_e15, (.z 0), 0), (planeBranches1_e31, planeBranches1_e33, 0), (planeBranches1_e37, planeBranches1_e39, 0), (planeBranches1_e42, (.z 0), 1), (planeBranches1_e47, (.z 0), -1), (planeBranches1_e50, planeBranches1_e2, 0), (planeBranches1_e55, planeBranches1_e10, 0)], sq := [(planeBranches1_e15, some (.v 9))], ne := [((.v 1), (.v 5)), (planeBranches1_e5, (.z 0)), (planeBranches1_e12, (.z 0))] }
theorem planeBranches1_p3 (fl : Bool) : (acode Tryz.prog (ctrA planeBranches1_A3) 20 (restN 6 planeBranches_c) (planeBranches_k0 fl).vn 111).map (fin Tryz.f9) = yesF := by kernel_rfl
def planeBranches1_A4 : Orc := { cmp := [((.v 0), (.v 4), 0), (planeBranches1_e15, (.z 0), 0)], sq := [(planeBranches1_e15, none)], ne := [((.v 1), (.v 5)), (planeBranches1_e5, (.z 0)), (planeBranches1_e12, (.z 0))] }
theorem planeBranches1_p4 (fl : Bool) : (acode Tryz.prog (ctrA planeBranches1_A4) 20 (restN 6 planeBranches_c) (planeBranches_k0 fl).vn 111).map (fin Tryz.f9) = yesF := by kernel_rfl
def planeBranches1_A5 : Orc := { cmp := [((.v 0), (.v 4), 0), (planeBranches1_e15, (.z 0), 1), (planeBranches1_e31, planeBranches1_e33, 0), (planeBranches1_e37, planeBranches1_e39, 0), (planeBranches1_e42, (.z 0), 0), (planeBranches1_e47, (.z 0), 0), (planeBranches1_e50, planeBranches1_e2, 0), (planeBranches1_e55, planeBranches1_e10, 0)], sq := [(planeBranches1_e15, some (.v 9))], ne := [((.v 1), (.v 5)), (planeBranches1_e5, (.z 0)), (planeBranches1_e12, (.z 0))] }
theorem planeBranches1_p5 (fl : Bool) : (acode Tryz.prog (ctrA planeBranches1_A5) 20 (restN 6 planeBranches_c) (planeBranches_k0 fl).vn 111).map (fin Tryz.f9) = yesF := by kernel_rfl
def planeBranches1_A6 : Orc := { cmp := [((.v 0), (.v 4), 0), (planeBranches1_e15, (.z 0), 1), (planeBranches1_e31, planeBranches1_e33, 0), (planeBranches1_e37, planeBranches1_e39, 0), (planeBranches1_e42, (.z 0), 1), (planeBranches1_e47, (.z 0), -1), (planeBranches1_e50, planeBranches1_e2, 0), (planeBranches1_e55, planeBranches1_e10, 0)], sq := [(planeBranches1_e15, some (.v 9))], ne := [((.v 1), (.v 5)), (planeBranches1_e5, (.z 0)), (planeBranches1_e12, (.z 0))] }
theorem planeBranches1_p6 (fl : Bool) : (acode Tryz.prog (ctrA planeBranches1_A6) 20 (restN 6 planeBranches_c) (planeBranches_k0 fl).vn 111).map (fin Tryz.f9) = yesF := by kernel_rfl
def planeBranches1_A7 : Orc := { cmp := [((.v 0), (.v 4), 0), (planeBranches1_e15, (.z 0), 1)], sq := [(planeBranches1_e15, none)], ne := [((.v 1), (.v 5)), (planeBranches1_e5, (.z 0)), (planeBranches1_e12, (.z 0))] }
theorem planeBranches1_p7 (fl : Bool) : (acode Tryz.prog (ctrA planeBranches1_A7) 20 (restN 6 planeBranches_c) (planeBranches_k0 fl).vn 111).map (fin Tryz.f9) = yesF := by kernel_rfl
def planeBranches1_A8 : Orc := { cmp := [(planeBranches1_e15, (.z 0), -1)], ne := [((.v 0), (.v 4)), (planeBranches1_e5, (.z 0)), (planeBranches1_e12, (.z 0))] }
theorem planeBranches1_p8 (fl : Bool) : (acode Tryz.prog (ctrA planeBranches1_A8) 20 (restN 6 planeBranches_c) (planeBranches_k0 fl).vn 111).map (fin Tryz.f9) = yesF := by kernel_rfl
def planeBranches1_A9 : Orc := { cmp := [(planeBranches1_e15, (.z 0), 0), (planeBranches1_e31, planeBranches1_e33, 0), (planeBranches1_e37, planeBranches1_e39, 0), (planeBranches1_e42, (.z 0), 0), (planeBranches1_e47, (.z 0), 0), (planeBranches1_e50, planeBranches1_e2, 0), (planeBranches1_e55, planeBranches1_e10, 0)], sq := [(planeBranches1_e15, some (.v 9))], ne := [((.v 0), (.v 4)), (planeBranches1_e5, (.z 0)), (planeBranches1_e12, (.z 0))] }
theorem planeBranches1_p9 (fl : Bool) : (acode Tryz.prog (ctrA planeBranches1_A9) 20 (restN 6 planeBranches_c) (planeBranches_k0 fl).vn 111).map (fin Tryz.f9) = yesF := by kernel_rfl
def planeBranches1_A10 : Orc := { cmp := [(planeBranches1_e15, (.z 0), 0), (planeBranches1_e31, planeBranches1_e33, 0), (planeBranches1_e37, planeBranches1_e39, 0), (planeBranches1_e42, (.z 0), 1), (planeBranches1_e47, (.z 0), -1), (planeBranches1_e50, planeBranches1_e2, 0), (planeBranches1_e55, planeBranches1_e10, 0)], sq := [(planeBranches1_e15, some (.v 9))], ne := [((.v 0), (.v 4)), (planeBranches1_e5, (.z 0)), (planeBranches1_e12, (.z 0))] }
theorem planeBranches1_p10 (fl : Bool) : (acode Tryz.prog (ctrA planeBranches1_A10) 20 (restN 6 planeBranches_c) (planeBranches_k0 fl).vn 111).map (fin Tryz.f9) = yesF := by kernel_rfl
def planeBranches1_A11 : Orc := { cmp := [(planeBranches1_e15, (.z 0), 0)], sq := [(planeBranches1_e15, none)], ne := [((.v 0), (.v 4)), (planeBranches1_e5, (.z 0)), (planeBranches1_e12, (.z 0))] }
theorem planeBranches1_p11 (fl : Bool) : (acode Tryz.prog (ctrA planeBranches1_A11) 20 (restN 6 planeBranches_c) (planeBranches_k0 fl).vn 111).map (fin Tryz.f9) = yesF := by kernel_rfl
def planeBranches1_A12 : Orc := { cmp := [(planeBranches1_e15, (.z 0), 1), (planeBranches1_e31, planeBranches1_e33, 0), (planeBranches1_e37, planeBranches1_e39, 0), (planeBranches1_e42, (.z 0), 0), (planeBranches1_e47, (.z 0), 0), (planeBranches1_e50, planeBranches1_e2, 0), (planeBranches1_e55, planeBranches1_e10, 0)], sq := [(planeBranches1_e15, some (.v 9))], ne := [((.v 0), (.v 4)), (planeBranches1_e5, (.z 0)), (planeBranches1_e12, (.z 0))] }
theorem planeBranches1_p12 (fl : Bool) : (acode Tryz.prog (ctrA planeBranches1_A12) 20 (restN 6 planeBranches_c) (planeBranches_k0 fl).vn 111).map (fin Tryz.f9) = yesF := by kernel_rfl
def planeBranches1_A13 : Orc := { cmp := [(planeBranches1_e15, (.z 0), 1), (planeBranches1_e31, planeBranches1_e33, 0), (planeBranches1_e37, planeBranches1_e39, 0), (planeBranches1_e42, (.z 0), 1), (planeBranches1_e47, (.z 0), -1), (planeBranches1_e50, planeBranches1_e2, 0), (planeBranches1_e55, planeBranches1_e10, 0)], sq := [(planeBranches1_e15, some (.v 9))], ne := [((.v 0), (.v 4)), (planeBranches1_e5, (.z 0)), (planeBranches1_e12, (.z 0))] }
theorem planeBranches1_p13 (fl : Bool) : (acode Tryz.prog (ctrA planeBranches1_A13) 20 (restN 6 planeBranches_c) (planeBranches_k0 fl).vn 111).map (fin Tryz.f9) = yesF := by kernel_rfl
def planeBranches1_A14 : Orc := { cmp := [(planeBranches1_e15, (.z 0), 1)], sq := [(planeBranches1_e15, none)], ne := [((.v 0), (.v 4)), (planeBranches1_e5, (.z 0)), (planeBranches1_e12, (.z 0))] }
theorem planeBranches1_p14 (fl : Bool) : (acode Tryz.prog (ctrA planeBranches1_A14) 20 (restN 6 planeBranches_c) (planeBranches_k0 fl).vn 111).map (fin Tryz.f9) = yesF := by kernel_rfl
theorem planeBranches1_dec (ρ : Nat → Rat) (fl : Bool) : ∃ (ρ' : Nat → Rat) (A : Orc), (∀ k, k < 9 → ρ' k = ρ k) ∧ A.OK ρ' ∧ (acode Tryz.prog (ctrA A) 20 (restN 6 planeBranches_c) (planeBranches_k0 fl).vn 111).map (fin Tryz.f9) = yesF := by
  refine ex_up ρ planeBranches1_e15 (by kernel_rfl) fun σ up_eq up_root => ?_
  by_cases h0 : RE.eval σ (.v 0) = RE.eval σ (.v 4)
  · have g0 := h0
    replace h0 := cmpR_zero.2 h0
    by_cases h1 : RE.eval σ (.v 1) = RE.eval σ (.v 5)
    · have g1 := h1
      replace h1 := cmpR_zero.2 h1
      exact ⟨σ, planeBranches1_A0, up_eq, (orc_cmp h0 (orc_cmp h1 orc_nil)), planeBranches1_p0 fl⟩
    · skip
      have h2 := normC (b := planeBranches1_e5) (x := (.v 1)) (y := (.v 5)) (f := (.sub (.v 4) (.v 0))) (nz := [(.z 2)]) (varsA_4 σ g0.symm) (nz_cons (two_ne _) nz_nil) (by kernel_rfl) h1
      have h3 := ne_like (likeC (x := planeBranches1_e12) (y := (.z 0)) (k := (.z 2)) (p := planeBranches1_e5) (q := (.z 0)) (nz := [planeBranches1_e5, (.z 2)]) (varsA_4 σ g0.symm) (nz_cons h2 (nz_cons (two_ne _) nz_nil)) (by kernel_rfl)) (show ((2 : Int) : Rat) ≠ (0 : Rat) from by decide +kernel) h2
      rcases cmpR_bound (RE.eval σ planeBranches1_e15) (RE.eval σ (.z 0)) with h4 | h4 | h4
      · skip
        exact ⟨σ, planeBranches1_A1, up_eq, (orc_cmp h0 (orc_cmp h4 (orc_ne h1 (orc_ne h2 (orc_ne h3 orc_nil))))), planeBranches1_p1 fl⟩
      · skip
        by_cases h5 : ∃ s : Rat, RE.eval σ planeBranches1_e15 = s * s
        · replace h5 := up_root h5
          have h6 := cmpR_zero.2 (eqC (x := planeBranches1_e31) (y := planeBranches1_e33) (nz := [planeBranches1_e5, planeBranches1_e12, (.z 2)]) (varsA_4 σ g0.symm) (nz_cons h2 (nz_cons h3 (nz_cons (two_ne _) nz_nil))) (by kernel_rfl))
          have h7 := cmpR_zero.2 (eqC (x := planeBranches1_e37) (y := planeBranches1_e39) (nz := [planeBranches1_e5, planeBranches1_e12, (.z 2)]) (varsA_4 σ g0.symm) (nz_cons h2 (nz_cons h3 (nz_cons (two_ne _) nz_nil))) (by kernel_rfl))
          rcases cmpR_bound (RE.eval σ planeBranches1_e42) (RE.eval σ (.z 0)) with h8 | h8 | h8
          · skip
            exact (nnegC (x := planeBranches1_e42) (s := .v 9) (p := (.sub (.v 4) (.v 0))) (q := (.sub (.v 5) (.v 1))) (k := 1) (nz := [planeBranches1_e5, planeBranches1_e12, (.z 2)]) (varsA_4 σ g0.symm) (nz_cons h2 (nz_cons h3 (nz_cons (two_ne _) nz_nil))) (by kernel_rfl) (by decide) h5.2 h8).elim
          · skip
            have h9 := cmpR_unlike (likeC (x := planeBranches1_e47) (y := (.z 0)) (k := (.z (-1))) (p := planeBranches1_e42) (q := (.z 0)) (nz := [planeBranches1_e5, planeBranches1_e12, (.z 2)]) (varsA_4 σ g0.symm) (nz_cons h2 (nz_cons h3 (nz_cons (two_ne _) nz_nil))) (by kernel_rfl)) (show ((-1 : Int) : Rat) < (0 : Rat) from by decide +kernel) h8
            have h10 := cmpR_zero.2 (eqC1 (x := planeBranches1_e50) (y := planeBranches1_e2) (c := planeBranches1_e5) (p := .mul (.v 9) (.v 9)) (q := planeBranches1_e15) (nz := [planeBranches1_e5, planeBranches1_e12, (.z 2)]) (varsA_4 σ g0.symm) (nz_cons h2 (nz_cons h3 (nz_cons (two_ne _) nz_nil))) h5.1.symm (by kernel_rfl))
            have h11 := cmpR_zero.2 (eqC1 (x := planeBranches1_e55) (y := planeBranches1_e10) (c := planeBranches1_e5) (p := .mul (.v 9) (.v 9)) (q := planeBranches1_e15) (nz := [planeBranches1_e5, planeBranches1_e12, (.z 2)]) (varsA_4 σ g0.symm) (nz_cons h2 (nz_cons h3 (nz_cons (two_ne _) nz_nil))) h5.1.symm (by kernel_rfl))
            exact ⟨σ, planeBranches1_A2, up_eq, (orc_cmp h0 (orc_cmp h4 (orc_cmp h6 (orc_cmp h7 (orc_cmp h8 (orc_cmp h9 (orc_cmp h10 (orc_cmp h11 (orc_root h5 (orc_ne h1 (orc_ne h2 (orc_ne h3 orc_nil)))))))))))), planeBranches1_p2 fl⟩
          · skip
            have h9 := cmpR_unlike (likeC (x := planeBranches1_e47) (y := (.z 0)) (k := (.z (-1))) (p := planeBranches1_e42) (q := (.z 0)) (nz := [planeBranches1_e5, planeBranches1_e12, planeBranches1_e42, (.z 2)]) (varsA_4 σ g0.symm) (nz_cons h2 (nz_cons h3 (nz_cons (ne_of_cmp h8 rfl) (nz_cons (two_ne _) nz_nil)))) (by kernel_rfl)) (show ((-1 : Int) : Rat) < (0 : Rat) from by decide +kernel) h8
            have h10 := cmpR_zero.2 (eqC1 (x := planeBranches1_e50) (y := planeBranches1_e2) (c := planeBranches1_e5) (p := .mul (.v 9) (.v 9)) (q := planeBranches1_e15) (nz := [planeBranches1_e5, planeBranches1_e12, planeBranches1_e42, planeBranches1_e47, (.z 2)]) (varsA_4 σ g0.symm) (nz_cons h2 (nz_cons h3 (nz_cons (ne_of_cmp h8 rfl) (nz_cons (ne_of_cmp h9 rfl) (nz_cons (two_ne _) nz_nil))))) h5.1.symm (by kernel_rfl))
            have h11 := cmpR_zero.2 (eqC1 (x := planeBranches1_e55) (y := planeBranches1_e10) (c := planeBranches1_e5) (p := .mul (.v 9) (.v 9)) (q := planeBranches1_e15) (nz := [planeBranches1_e5, planeBranches1_e12, planeBranches1_e42, planeBranches1_e47, (.z 2)]) (varsA_4 σ g0.symm) (nz_cons h2 (nz_cons h3 (nz_cons (ne_of_cmp h8 rfl) (nz_cons (ne_of_cmp h9 rfl) (nz_cons (two_ne _) nz_nil))))) h5.1.symm (by kernel_rfl))
            exact ⟨σ, planeBranches1_A3, up_eq, (orc_cmp h0 (orc_cmp h4 (orc_cmp h6 (orc_cmp h7 (orc_cmp h8 (orc_cmp h9 (orc_cmp h10 (orc_cmp h11 (orc_root h5 (orc_ne h1 (orc_ne h2 (orc_ne h3 orc_nil)))))))))))), planeBranches1_p3 fl⟩
        · replace h5 := not_ex h5
          exact ⟨σ, planeBranches1_A4, up_eq, (orc_cmp h0 (orc_cmp h4 (orc_noroot h5 (orc_ne h1 (orc_ne h2 (orc_ne h3 orc_nil)))))), planeBranches1_p4 fl⟩
      · skip
        by_cases h5 : ∃ s : Rat, RE.eval σ planeBranches1_e15 = s * s
        · replace h5 := up_root h5
          have h6 := cmpR_zero.2 (eqC (x := planeBranches1_e31) (y := planeBranches1_e33) (nz := [planeBranches1_e5, planeBranches1_e12, planeBranches1_e15, (.z 2)]) (varsA_4 σ g0.symm) (nz_cons h2 (nz_cons h3 (nz_cons (ne_of_cmp h4 rfl) (nz_cons (two_ne _) nz_nil)))) (by kernel_rfl))
          have h7 := cmpR_zero.2 (eqC (x := planeBranches1_e37) (y := planeBranches1_e39) (nz := [planeBranches1_e5, planeBranches1_e12, planeBranches1_e15, (.z 2)]) (varsA_4 σ g0.symm) (nz_cons h2 (nz_cons h3 (nz_cons (ne_of_cmp h4 rfl) (nz_cons (two_ne _) nz_nil)))) (by kernel_rfl))
          rcases cmpR_bound (RE.eval σ planeBranches1_e42) (RE.eval σ (.z 0)) with h8 | h8 | h8
          · skip
            exact (nnegC (x := planeBranches1_e42) (s := .v 9) (p := (.sub (.v 4) (.v 0))) (q := (.sub (.v 5) (.v 1))) (k := 1) (nz := [planeBranches1_e5, planeBranches1_e12, planeBranches1_e15, (.z 2)]) (varsA_4 σ g0.symm) (nz_cons h2 (nz_cons h3 (nz_cons (ne_of_cmp h4 rfl) (nz_cons (two_ne _) nz_nil)))) (by kernel_rfl) (by decide) h5.2 h8).elim
          · skip
            have h9 := cmpR_unlike (likeC (x := planeBranches1_e47) (y := (.z 0)) (k := (.z (-1))) (p := planeBranches1_e42) (q := (.z 0)) (nz := [planeBranches1_e5, planeBranches1_e12, planeBranches1_e15, (.z 2)]) (varsA_4 σ g0.symm) (nz_cons h2 (nz_cons h3 (nz_cons (ne_of_cmp h4 rfl) (nz_cons (two_ne _) nz_nil)))) (by kernel_rfl)) (show ((-1 : Int) : Rat) < (0 : Rat) from by decide +kernel) h8
            have h10 := cmpR_zero.2 (eqC1 (x := planeBranches1_e50) (y := planeBranches1_e2) (c := planeBranches1_e5) (p := .mul (.v 9) (.v 9)) (q := planeBranches1_e15) (nz := [planeBranches1_e5, planeBranches1_e12, planeBranches1_e15, (.z 2)]) (varsA_4 σ g0.symm) (nz_cons h2 (nz_cons h3 (nz_cons (ne_of_cmp h4 rfl) (nz_cons (two_ne _) nz_nil)))) h5.1.symm (by kernel_rfl))
            have h11 := cmpR_zero.2 (eqC1 (x := planeBranches1_e55) (y := planeBranches1_e10) (c := planeBranches1_e5) (p := .mul (.v 9) (.v 9)) (q := planeBranches1_e15) (nz := [planeBranches1_e5, planeBranches1_e12, planeBranches1_e15, (.z 2)]) (varsA_4 σ g0.symm) (nz_cons h2 (nz_cons h3 (nz_cons (ne_of_cmp h4 rfl) (nz_cons (two_ne _) nz_nil)))) h5.1.symm (by kernel_rfl))
            exact ⟨σ, planeBranches1_A5, up_eq, (orc_cmp h0 (orc_cmp h4 (orc_cmp h6 (orc_cmp h7 (orc_cmp h8 (orc_cmp h9 (orc_cmp h10 (orc_cmp h11 (orc_root h5 (orc_ne h1 (orc_ne h2 (orc_ne h3 orc_nil)))))))))))), planeBranches1_p5 fl⟩
          · skip
            have h9 := cmpR_unlike (likeC (x := planeBranches1_e47) (y := (.z 0)) (k := (.z (-1))) (p := planeBranches1_e42) (q := (.z 0)) (nz := [planeBranches1_e5, planeBranches1_e12, planeBranches1_e15, planeBranches1_e42, (.z 2)]) (varsA_4 σ g0.symm) (nz_cons h2 (nz_cons h3 (nz_cons (ne_of_cmp h4 rfl) (nz_cons (ne_of_cmp h8 rfl) (nz_cons (two_ne _) nz_nil))))) (by kernel_rfl)) (show ((-1 : Int) : Rat) < (0 : Rat) from by decide +kernel) h8
            have h10 := cmpR_zero.2 (eqC1 (x := planeBranches1_e50) (y := planeBranches1_e2) (c := planeBranches1_e5) (p := .mul (.v 9) (.v 9)) (q := planeBranches1_e15) (nz := [planeBranches1_e5, planeBranches1_e12, planeBranches1_e15, planeBranches1_e42, planeBranches1_e47, (.z 2)]) (varsA_4 σ g0.symm) (nz_cons h2 (nz_cons h3 (nz_cons (ne_of_cmp h4 rfl) (nz_cons (ne_of_cmp h8 rfl) (nz_cons (ne_of_cmp h9 rfl) (nz_cons (two_ne _) nz_nil)))))) h5.1.symm (by kernel_rfl))
            have h11 := cmpR_zero.2 (eqC1 (x := planeBranches1_e55) (y := planeBranches1_e10) (c := planeBranches1_e5) (p := .mul (.v 9) (.v 9)) (q := planeBranches1_e15) (nz := [planeBranches1_e5, planeBranches1_e12, planeBranches1_e15, planeBranches1_e42, planeBranches1_e47, (.z 2)]) (varsA_4 σ g0.symm) (nz_cons h2 (nz_cons h3 (nz_cons (ne_of_cmp h4 rfl) (nz_cons (ne_of_cmp h8 rfl) (nz_cons (ne_of_cmp h9 rfl) (nz_cons (two_ne _) nz_nil)))))) h5.1.symm (by kernel_rfl))
            exact ⟨σ, planeBranches1_A6, up_eq, (orc_cmp h0 (orc_cmp h4 (orc_cmp h6 (orc_cmp h7 (orc_cmp h8 (orc_cmp h9 (orc_cmp h10 (orc_cmp h11 (orc_root h5 (orc_ne h1 (orc_ne h2 (orc_ne h3 orc_nil)))))))))))), planeBranches1_p6 fl⟩
        · replace h5 := not_ex h5
          exact ⟨σ, planeBranches1_A7, up_eq, (orc_cmp h0 (orc_cmp h4 (orc_noroot h5 (orc_ne h1 (orc_ne h2 (orc_ne h3 orc_nil)))))), planeBranches1_p7 fl⟩
  · skip
    have h1 := normC (b := planeBranches1_e5) (x := (.v 0)) (y := (.v 4)) (f := (.sub (.v 5) (.v 1))) (nz := [(.z 2)]) (varsA σ) (nz_cons (two_ne _) nz_nil) (by kernel_rfl) h0
    have h2 := ne_like (likeC (x := planeBranches1_e12) (y := (.z 0)) (k := (.z 2)) (p := planeBranches1_e5) (q := (.z 0)) (nz := [planeBranches1_e5, (.z 2)]) (varsA σ) (nz_cons h1 (nz_cons (two_ne _) nz_nil)) (by kernel_rfl)) (show ((2 : Int) : Rat) ≠ (0 : Rat) from by decide +kernel) h1
    rcases cmpR_bound (RE.eval σ planeBranches1_e15) (RE.eval σ (.z 0)) with h3 | h3 | h3
    · skip
      exact ⟨σ, planeBranches1_A8, up_eq, (orc_cmp h3 (orc_ne h0 (orc_ne h1 (orc_ne h2 orc_nil)))), planeBranches1_p8 fl⟩
    · skip
      by_cases h4 : ∃ s : Rat, RE.eval σ planeBranches1_e15 = s * s
      · replace h4 := up_root h4
        have h5 := cmpR_zero.2 (eqC (x := planeBranches1_e31) (y := planeBranches1_e33) (nz := [planeBranches1_e5, planeBranches1_e12, (.z 2)]) (varsA σ) (nz_cons h1 (nz_cons h2 (nz_cons (two_ne _) nz_nil))) (by kernel_rfl))
        have h6 := cmpR_zero.2 (eqC (x := planeBranches1_e37) (y := planeBranches1_e39) (nz := [planeBranches1_e5, planeBranches1_e12, (.z 2)]) (varsA σ) (nz_cons h1 (nz_cons h2 (nz_cons (two_ne _) nz_nil))) (by kernel_rfl))
        rcases cmpR_bound (RE.eval σ planeBranches1_e42) (RE.eval σ (.z 0)) with h7 | h7 | h7
        · skip
          exact (nnegC (x := planeBranches1_e42) (s := .v 9) (p := (.sub (.v 4) (.v 0))) (q := (.sub (.v 5) (.v 1))) (k := 1) (nz := [planeBranches1_e5, planeBranches1_e12, (.z 2)]) (varsA σ) (nz_cons h1 (nz_cons h2 (nz_cons (two_ne _) nz_nil))) (by kernel_rfl) (by decide) h4.2 h7).elim
        · skip
          have h8 := cmpR_unlike (likeC (x := planeBranches1_e47) (y := (.z 0)) (k := (.z (-1))) (p := planeBranches1_e42) (q := (.z 0)) (nz := [planeBranches1_e5, planeBranches1_e12, (.z 2)]) (varsA σ) (nz_cons h1 (nz_cons h2 (nz_cons (two_ne _) nz_nil))) (by kernel_rfl)) (show ((-1 : Int) : Rat) < (0 : Rat) from by decide +kernel) h7
          have h9 := cmpR_zero.2 (eqC1 (x := planeBranches1_e50) (y := planeBranches1_e2) (c := planeBranches1_e5) (p := .mul (.v 9) (.v 9)) (q := planeBranches1_e15) (nz := [planeBranches1_e5, planeBranches1_e12, (.z 2)]) (varsA σ) (nz_cons h1 (nz_cons h2 (nz_cons (two_ne _) nz_nil))) h4.1.symm (by kernel_rfl))
          have h10 := cmpR_zero.2 (eqC1 (x := planeBranches1_e55) (y := planeBranches1_e10) (c := planeBranches1_e5) (p := .mul (.v 9) (.v 9)) (q := planeBranches1_e15) (nz := [planeBranches1_e5, planeBranches1_e12, (.z 2)]) (varsA σ) (nz_cons h1 (nz_cons h2 (nz_cons (two_ne _) nz_nil))) h4.1.symm (by kernel_rfl))
          exact ⟨σ, planeBranches1_A9, up_eq, (orc_cmp h3 (orc_cmp h5 (orc_cmp h6 (orc_cmp h7 (orc_cmp h8 (orc_cmp h9 (orc_cmp h10 (orc_root h4 (orc_ne h0 (orc_ne h1 (orc_ne h2 orc_nil))))))))))), planeBranches1_p9 fl⟩
        · skip
          have h8 := cmpR_unlike (likeC (x := planeBranches1_e47) (y := (.z 0)) (k := (.z (-1))) (p := planeBranches1_e42) (q := (.z 0)) (nz := [planeBranches1_e5, planeBranches1_e12, planeBranches1_e42, (.z 2)]) (varsA σ) (nz_cons h1 (nz_cons h2 (nz_cons (ne_of_cmp h7 rfl) (nz_cons (two_ne _) nz_nil)))) (by kernel_rfl)) (show ((-1 : Int) : Rat) < (0 : Rat) from by decide +kernel) h7
          have h9 := cmpR_zero.2 (eqC1 (x := planeBranches1_e50) (y := planeBranches1_e2) (c := planeBranches1_e5) (p := .mul (.v 9) (.v 9)) (q := planeBranches1_e15) (nz := [planeBranches1_e5, planeBranches1_e12, planeBranches1_e42, planeBranches1_e47, (.z 2)]) (varsA σ) (nz_cons h1 (nz_cons h2 (nz_cons (ne_of_cmp h7 rfl) (nz_cons (ne_of_cmp h8 rfl) (nz_cons (two_ne _) nz_nil))))) h4.1.symm (by kernel_rfl))
          have h10 := cmpR_zero.2 (eqC1 (x := planeBranches1_e55) (y := planeBranches1_e10) (c := planeBranches1_e5) (p := .mul (.v 9) (.v 9)) (q := planeBranches1_e15) (nz := [planeBranches1_e5, planeBranches1_e12, planeBranches1_e42, planeBranches1_e47, (.z 2)]) (varsA σ) (nz_cons h1 (nz_cons h2 (nz_cons (ne_of_cmp h7 rfl) (nz_cons (ne_of_cmp h8 rfl) (nz_cons (two_ne _) nz_nil))))) h4.1.symm (by kernel_rfl))
          exact ⟨σ, planeBranches1_A10, up_eq, (orc_cmp h3 (orc_cmp h5 (orc_cmp h6 (orc_cmp h7 (orc_cmp h8 (orc_cmp h9 (orc_cmp h10 (orc_root h4 (orc_ne h0 (orc_ne h1 (orc_ne h2 orc_nil))))))))))), planeBranches1_p10 fl⟩
      · replace h4 := not_ex h4
        exact ⟨σ, planeBranches1_A11, up_eq, (orc_cmp h3 (orc_noroot h4 (orc_ne h0 (orc_ne h1 (orc_ne h2 orc_nil))))), planeBranches1_p11 fl⟩
    · skip
      by_cases h4 : ∃ s : Rat, RE.eval σ planeBranches1_e15 = s * s
      · replace h4 := up_root h4
        have h5 := cmpR_zero.2 (eqC (x := planeBranches1_e31) (y := planeBranches1_e33) (nz := [planeBranches1_e5, planeBranches1_e12, planeBranches1_e15, (.z 2)]) (varsA σ) (nz_cons h1 (nz_cons h2 (nz_cons (ne_of_cmp h3 rfl) (nz_cons (two_ne _) nz_nil)))) (by kernel_rfl))
        have h6 := cmpR_zero.2 (eqC (x := planeBranches1_e37) (y := planeBranches1_e39) (nz := [planeBranches1_e5, planeBranches1_e12, planeBranches1_e15, (.z 2)]) (varsA σ) (nz_cons h1 (nz_cons h2 (nz_cons (ne_of_cmp h3 rfl) (nz_cons (two_ne _) nz_nil)))) (by kernel_rfl))
        rcases cmpR_bound (RE.eval σ planeBranches1_e42) (RE.eval σ (.z 0)) with h7 | h7 | h7
        · skip
          exact (nnegC (x := planeBranches1_e42) (s := .v 9) (p := (.sub (.v 4) (.v 0))) (q := (.sub (.v 5) (.v 1))) (k := 1) (nz := [planeBranches1_e5, planeBranches1_e12, planeBranches1_e15, (.z 2)]) (varsA σ) (nz_cons h1 (nz_cons h2 (nz_cons (ne_of_cmp h3 rfl) (nz_cons (two_ne _) nz_nil)))) (by kernel_rfl) (by decide) h4.2 h7).elim
        · skip
          have h8 := cmpR_unlike (likeC (x := planeBranches1_e47) (y := (.z 0)) (k := (.z (-1))) (p := planeBranches1_e42) (q := (.z 0)) (nz := [planeBranches1_e5, planeBranches1_e12, planeBranches1_e15, (.z 2)]) (varsA σ) (nz_cons h1 (nz_cons h2 (nz_cons (ne_of_cmp h3 rfl) (nz_cons (two_ne _) nz_nil)))) (by kernel_rfl)) (show ((-1 : Int) : Rat) < (0 : Rat) from by decide +kernel) h7
          have h9 := cmpR_zero.2 (eqC1 (x := planeBranches1_e50) (y := planeBranches1_e2) (c := planeBranches1_e5) (p := .mul (.v 9) (.v 9)) (q := planeBranches1_e15) (nz := [planeBranches1_e5, planeBranches1_e12, planeBranches1_e15, (.z 2)]) (varsA σ) (nz_cons h1 (nz_cons h2 (nz_cons (ne_of_cmp h3 rfl) (nz_cons (two_ne _) nz_nil)))) h4.1.symm (by kernel_rfl))
          have h10 := cmpR_zero.2 (eqC1 (x := planeBranches1_e55) (y := planeBranches1_e10) (c := planeBranches1_e5) (p := .mul (.v 9) (.v 9)) (q := planeBranches1_e15) (nz := [planeBranches1_e5, planeBranches1_e12, planeBranches1_e15, (.z 2)]) (varsA σ) (nz_cons h1 (nz_cons h2 (nz_cons (ne_of_cmp h3 rfl) (nz_cons (two_ne _) nz_nil)))) h4.1.symm (by kernel_rfl))
          exact ⟨σ, planeBranches1_A12, up_eq, (orc_cmp h3 (orc_cmp h5 (orc_cmp h6 (orc_cmp h7 (orc_cmp h8 (orc_cmp h9 (orc_cmp h10 (orc_root h4 (orc_ne h0 (orc_ne h1 (orc_ne h2 orc_nil))))))))))), planeBranches1_p12 fl⟩
        · skip
          have h8 := cmpR_unlike (likeC (x := planeBranches1_e47) (y := (.z 0)) (k := (.z (-1))) (p := planeBranches1_e42) (q := (.z 0)) (nz := [planeBranches1_e5, planeBranches1_e12, planeBranches1_e15, planeBranches1_e42, (.z 2)]) (varsA σ) (nz_cons h1 (nz_cons h2 (nz_cons (ne_of_cmp h3 rfl) (nz_cons (ne_of_cmp h7 rfl) (nz_cons (two_ne _) nz_nil))))) (by kernel_rfl)) (show ((-1 : Int) : Rat) < (0 : Rat) from by decide +kernel) h7
          have h9 := cmpR_zero.2 (eqC1 (x := planeBranches1_e50) (y := planeBranches1_e2) (c := planeBranches1_e5) (p := .mul (.v 9) (.v 9)) (q := planeBranches1_e15) (nz := [planeBranches1_e5, planeBranches1_e12, planeBranches1_e15, planeBranches1_e42, planeBranches1_e47, (.z 2)]) (varsA σ) (nz_cons h1 (nz_cons h2 (nz_cons (ne_of_cmp h3 rfl) (nz_cons (ne_of_cmp h7 rfl) (nz_cons (ne_of_cmp h8 rfl) (nz_cons (two_ne _) nz_nil)))))) h4.1.symm (by kernel_rfl))
          have h10 := cmpR_zero.2 (eqC1 (x := planeBranches1_e55) (y := planeBranches1_e10) (c := planeBranches1_e5) (p := .mul (.v 9) (.v 9)) (q := planeBranches1_e15) (nz := [planeBranches1_e5, planeBranches1_e12, planeBranches1_e15, planeBranches1_e42, planeBranches1_e47, (.z 2)]) (varsA σ) (nz_cons h1 (nz_cons h2 (nz_cons (ne_of_cmp h3 rfl) (nz_cons (ne_of_cmp h7 rfl) (nz_cons (ne_of_cmp h8 rfl) (nz_cons (two_ne _) nz_nil)))))) h4.1.symm (by kernel_rfl))
          exact ⟨σ, planeBranches1_A13, up_eq, (orc_cmp h3 (orc_cmp h5 (orc_cmp h6 (orc_cmp h7 (orc_cmp h8 (orc_cmp h9 (orc_cmp h10 (orc_root h4 (orc_ne h0 (orc_ne h1 (orc_ne h2 orc_nil))))))))))), planeBranches1_p13 fl⟩
      · replace h4 := not_ex h4
        exact ⟨σ, planeBranches1_A14, up_eq, (orc_cmp h3 (orc_noroot h4 (orc_ne h0 (orc_ne h1 (orc_ne h2 orc_nil))))), planeBranches1_p14 fl⟩

theorem planeBranches_q1 (fl : Bool) : LastOK Tryz.f9 (restN 6 planeBranches_c) (planeBranches_k0 fl).vn 111 := fun ρ => planeBranches1_dec ρ fl
theorem planeBranches_walk {W : World} (T : Tb W) {F : Nat → List Value} {fl : Bool} (hF : ∀ k, k < 9 → NumR W (F k)) :
    Calls Tryz.prog 9 #[.agg (join9 F 9 ++ [Value.bool fl]).toArray] W fun e w' => e = .returned (.bool true) ∧ W.grownBy w' none := by
  refine law13P (c := planeBranches_c) Tryz.func9 Tryz.call9 (by kernel_rfl) (by kernel_rfl) T hF (fun k hk => ?_) fun hs ρ E a w Q h0 f0 hQ => ?_
  · match k, hk with
    | 0, _ => exact planeBranches_no0 fl
    | 1, _ => exact planeBranches_no1 fl
    | 2, _ => exact planeBranches_no2 fl
    | 3, _ => exact planeBranches_no3 fl
    | 4, _ => exact planeBranches_no4 fl
    | 5, _ => exact planeBranches_no5 fl
    | 6, _ => exact planeBranches_no6 fl
    | 7, _ => exact planeBranches_no7 fl
    | 8, _ => exact planeBranches_no8 fl
  refine piece13 T hs (planeBranches_q0 fl) (V13_sy fl _) (by kernel_rfl) h0 f0 fun E1 a1 w1 h1 f1 => ?_
  exact last13 T hs (planeBranches_q1 fl) (SyOK.of_keep (by kernel_rfl)) h1 f1 hQ
end Go.Proofs.YtgbfjneoieadmaaGreatDoor
