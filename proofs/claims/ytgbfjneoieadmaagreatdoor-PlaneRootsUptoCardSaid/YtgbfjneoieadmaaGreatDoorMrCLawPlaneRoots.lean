/-
  CasesPlaneRoots, in one text.
-/
import Derived.Test.YtgbfjneoieadmaaGreatDoorMrQ

set_option linter.unusedVariables false
set_option linter.unusedSimpArgs false
namespace Go.Proofs.YtgbfjneoieadmaaGreatDoor
open Go.ChangeShapes Go.WideShapes Go.ChangeAt Go.RowKit Nm Go.Abs
open Go

theorem planeRoots_no0 (fl : Bool) : run13 {} (yesNo 0) 7 Tryz.f7 fix9 fl = yesR := by kernel_rfl
theorem planeRoots_no1 (fl : Bool) : run13 {} (yesNo 1) 7 Tryz.f7 fix9 fl = yesR := by kernel_rfl
theorem planeRoots_no2 (fl : Bool) : run13 {} (yesNo 2) 7 Tryz.f7 fix9 fl = yesR := by kernel_rfl
theorem planeRoots_no3 (fl : Bool) : run13 {} (yesNo 3) 7 Tryz.f7 fix9 fl = yesR := by kernel_rfl
theorem planeRoots_no4 (fl : Bool) : run13 {} (yesNo 4) 7 Tryz.f7 fix9 fl = yesR := by kernel_rfl
theorem planeRoots_no5 (fl : Bool) : run13 {} (yesNo 5) 7 Tryz.f7 fix9 fl = yesR := by kernel_rfl
theorem planeRoots_no6 (fl : Bool) : run13 {} (yesNo 6) 7 Tryz.f7 fix9 fl = yesR := by kernel_rfl
theorem planeRoots_no7 (fl : Bool) : run13 {} (yesNo 7) 7 Tryz.f7 fix9 fl = yesR := by kernel_rfl
theorem planeRoots_no8 (fl : Bool) : run13 {} (yesNo 8) 7 Tryz.f7 fix9 fl = yesR := by kernel_rfl
noncomputable def planeRoots_c : Code := bodyOf Tryz.f7
noncomputable def planeRoots_k0 (fl : Bool) : Keep KQ := { sl := [(1, .val false [.ptr 2 0]), (3, .val false [.ptr 21 0]), (5, .val false [.ptr 38 0])], bl := [(2, ⟨31, cells9 9 ++ [.lit (.bool fl)]⟩)], bx := [(21, 29, 6), (38, 29, 6)], ks := [(0, 0, .num 0 (.v 0) 2), (0, 1, .num 1 (.v 1) 2), (0, 2, .num 2 (.v 2) 2), (0, 3, .num 3 (.v 3) 2), (0, 4, .num 4 (.v 4) 2), (0, 5, .num 5 (.v 5) 2), (0, 6, .num 6 (.v 6) 2), (0, 7, .num 7 (.v 7) 2), (0, 8, .num 8 (.v 8) 2)], n := 103, ob := 2 }
def planeRoots0f_e0 : RE := .mul (.sub (.v 2) (.v 0)) (.sub (.v 4) (.v 0))
def planeRoots0f_e1 : RE := .mul (.sub (.v 3) (.v 1)) (.sub (.v 5) (.v 1))
def planeRoots0f_e2 : RE := .add planeRoots0f_e0 planeRoots0f_e1
def planeRoots0f_e3 : RE := .mul (.sub (.v 2) (.v 0)) (.sub (.v 2) (.v 0))
def planeRoots0f_e4 : RE := .mul (.sub (.v 3) (.v 1)) (.sub (.v 3) (.v 1))
def planeRoots0f_e5 : RE := .add planeRoots0f_e3 planeRoots0f_e4
def planeRoots0f_e6 : RE := .div planeRoots0f_e2 planeRoots0f_e5
def planeRoots0f_e7 : RE := .mul planeRoots0f_e6 planeRoots0f_e6
def planeRoots0f_e8 : RE := .mul (.sub (.v 4) (.v 0)) (.sub (.v 4) (.v 0))
def planeRoots0f_e9 : RE := .mul (.sub (.v 5) (.v 1)) (.sub (.v 5) (.v 1))
def planeRoots0f_e10 : RE := .add planeRoots0f_e8 planeRoots0f_e9
def planeRoots0f_e11 : RE := .mul (.sub (.v 6) (.v 4)) (.sub (.v 6) (.v 4))
def planeRoots0f_e12 : RE := .mul (.sub (.v 7) (.v 5)) (.sub (.v 7) (.v 5))
def planeRoots0f_e13 : RE := .add planeRoots0f_e11 planeRoots0f_e12
def planeRoots0f_e14 : RE := .sub planeRoots0f_e10 planeRoots0f_e13
def planeRoots0f_e15 : RE := .div planeRoots0f_e14 planeRoots0f_e5
def planeRoots0f_e16 : RE := .sub planeRoots0f_e7 planeRoots0f_e15
def planeRoots0f_A0 : Orc := { cmp := [((.v 0), (.v 2), 0), ((.v 1), (.v 3), 0)] }
theorem planeRoots0f_p0  : (stepN Tryz.prog (ctrA planeRoots0f_A0) 20 5 planeRoots_c (V13 false Tryz.f7) 2).map (digest (planeRoots_k0 false) 47) = some (planeRoots_k0 false).want := by kernel_rfl
def planeRoots0f_A1 : Orc := { cmp := [((.v 0), (.v 2), 0), (planeRoots0f_e16, (.z 0), -1)], ne := [((.v 1), (.v 3)), (planeRoots0f_e5, (.z 0))] }
theorem planeRoots0f_p1  : (stepN Tryz.prog (ctrA planeRoots0f_A1) 20 5 planeRoots_c (V13 false Tryz.f7) 2).map (digest (planeRoots_k0 false) 47) = some (planeRoots_k0 false).want := by kernel_rfl
def planeRoots0f_A2 : Orc := { cmp := [((.v 0), (.v 2), 0), (planeRoots0f_e16, (.z 0), 0)], sq := [(planeRoots0f_e16, some (.v 9))], ne := [((.v 1), (.v 3)), (planeRoots0f_e5, (.z 0))] }
theorem planeRoots0f_p2  : (stepN Tryz.prog (ctrA planeRoots0f_A2) 20 5 planeRoots_c (V13 false Tryz.f7) 2).map (digest (planeRoots_k0 false) 47) = some (planeRoots_k0 false).want := by kernel_rfl
def planeRoots0f_A3 : Orc := { cmp := [((.v 0), (.v 2), 0), (planeRoots0f_e16, (.z 0), 0)], sq := [(planeRoots0f_e16, none)], ne := [((.v 1), (.v 3)), (planeRoots0f_e5, (.z 0))] }
theorem planeRoots0f_p3  : (stepN Tryz.prog (ctrA planeRoots0f_A3) 20 5 planeRoots_c (V13 false Tryz.f7) 2).map (digest (planeRoots_k0 false) 47) = some (planeRoots_k0 false).want := by kernel_rfl
def planeRoots0f_A4 : Orc := { cmp := [((.v 0), (.v 2), 0), (planeRoots0f_e16, (.z 0), 1)], sq := [(planeRoots0f_e16, some (.v 9))], ne := [((.v 1), (.v 3)), (planeRoots0f_e5, (.z 0))] }
theorem planeRoots0f_p4  : (stepN Tryz.prog (ctrA planeRoots0f_A4) 20 5 planeRoots_c (V13 false Tryz.f7) 2).map (digest (planeRoots_k0 false) 47) = some (planeRoots_k0 false).want := by kernel_rfl
def planeRoots0f_A5 : Orc := { cmp := [((.v 0), (.v 2), 0), (planeRoots0f_e16, (.z 0), 1)], sq := [(planeRoots0f_e16, none)], ne := [((.v 1), (.v 3)), (planeRoots0f_e5, (.z 0))] }
theorem planeRoots0f_p5  : (stepN Tryz.prog (ctrA planeRoots0f_A5) 20 5 planeRoots_c (V13 false Tryz.f7) 2).map (digest (planeRoots_k0 false) 47) = some (planeRoots_k0 false).want := by kernel_rfl
def planeRoots0f_A6 : Orc := { cmp := [(planeRoots0f_e16, (.z 0), -1)], ne := [((.v 0), (.v 2)), (planeRoots0f_e5, (.z 0))] }
theorem planeRoots0f_p6  : (stepN Tryz.prog (ctrA planeRoots0f_A6) 20 5 planeRoots_c (V13 false Tryz.f7) 2).map (digest (planeRoots_k0 false) 47) = some (planeRoots_k0 false).want := by kernel_rfl
def planeRoots0f_A7 : Orc := { cmp := [(planeRoots0f_e16, (.z 0), 0)], sq := [(planeRoots0f_e16, some (.v 9))], ne := [((.v 0), (.v 2)), (planeRoots0f_e5, (.z 0))] }
theorem planeRoots0f_p7  : (stepN Tryz.prog (ctrA planeRoots0f_A7) 20 5 planeRoots_c (V13 false Tryz.f7) 2).map (digest (planeRoots_k0 false) 47) = some (planeRoots_k0 false).want := by kernel_rfl
def planeRoots0f_A8 : Orc := { cmp := [(planeRoots0f_e16, (.z 0), 0)], sq := [(planeRoots0f_e16, none)], ne := [((.v 0), (.v 2)), (planeRoots0f_e5, (.z 0))] }
theorem planeRoots0f_p8  : (stepN Tryz.prog (ctrA planeRoots0f_A8) 20 5 planeRoots_c (V13 false Tryz.f7) 2).map (digest (planeRoots_k0 false) 47) = some (planeRoots_k0 false).want := by kernel_rfl
def planeRoots0f_A9 : Orc := { cmp := [(planeRoots0f_e16, (.z 0), 1)], sq := [(planeRoots0f_e16, some (.v 9))], ne := [((.v 0), (.v 2)), (planeRoots0f_e5, (.z 0))] }
theorem planeRoots0f_p9  : (stepN Tryz.prog (ctrA planeRoots0f_A9) 20 5 planeRoots_c (V13 false Tryz.f7) 2).map (digest (planeRoots_k0 false) 47) = some (planeRoots_k0 false).want := by kernel_rfl
def planeRoots0f_A10 : Orc := { cmp := [(planeRoots0f_e16, (.z 0), 1)], sq := [(planeRoots0f_e16, none)], ne := [((.v 0), (.v 2)), (planeRoots0f_e5, (.z 0))] }
theorem planeRoots0f_p10  : (stepN Tryz.prog (ctrA planeRoots0f_A10) 20 5 planeRoots_c (V13 false Tryz.f7) 2).map (digest (planeRoots_k0 false) 47) = some (planeRoots_k0 false).want := by kernel_rfl
theorem planeRoots0f_dec (ρ : Nat → Rat)  : ∃ (ρ' : Nat → Rat) (A : Orc), (∀ k, k < 9 → ρ' k = ρ k) ∧ A.OK ρ' ∧ (stepN Tryz.prog (ctrA A) 20 5 planeRoots_c (V13 false Tryz.f7) 2).map (digest (planeRoots_k0 false) 47) = some (planeRoots_k0 false).want := by
  refine ex_up ρ planeRoots0f_e16 (by kernel_rfl) fun σ up_eq up_root => ?_
  by_cases h0 : RE.eval σ (.v 0) = RE.eval σ (.v 2)
  · have g0 := h0
    replace h0 := cmpR_zero.2 h0
    by_cases h1 : RE.eval σ (.v 1) = RE.eval σ (.v 3)
    · have g1 := h1
      replace h1 := cmpR_zero.2 h1
      exact ⟨σ, planeRoots0f_A0, up_eq, (orc_cmp h0 (orc_cmp h1 orc_nil)), planeRoots0f_p0⟩
    · skip
      have h2 := normC (b := planeRoots0f_e5) (x := (.v 1)) (y := (.v 3)) (f := (.sub (.v 2) (.v 0))) (nz := [(.z 2)]) (varsA_2 σ g0.symm) (nz_cons (two_ne _) nz_nil) (by kernel_rfl) h1
      rcases cmpR_bound (RE.eval σ planeRoots0f_e16) (RE.eval σ (.z 0)) with h3 | h3 | h3
      · skip
        exact ⟨σ, planeRoots0f_A1, up_eq, (orc_cmp h0 (orc_cmp h3 (orc_ne h1 (orc_ne h2 orc_nil)))), planeRoots0f_p1⟩
      · skip
        by_cases h4 : ∃ s : Rat, RE.eval σ planeRoots0f_e16 = s * s
        · replace h4 := up_root h4
          exact ⟨σ, planeRoots0f_A2, up_eq, (orc_cmp h0 (orc_cmp h3 (orc_root h4 (orc_ne h1 (orc_ne h2 orc_nil))))), planeRoots0f_p2⟩
        · replace h4 := not_ex h4
          exact ⟨σ, planeRoots0f_A3, up_eq, (orc_cmp h0 (orc_cmp h3 (orc_noroot h4 (orc_ne h1 (orc_ne h2 orc_nil))))), planeRoots0f_p3⟩
      · skip
        by_cases h4 : ∃ s : Rat, RE.eval σ planeRoots0f_e16 = s * s
        · replace h4 := up_root h4
          exact ⟨σ, planeRoots0f_A4, up_eq, (orc_cmp h0 (orc_cmp h3 (orc_root h4 (orc_ne h1 (orc_ne h2 orc_nil))))), planeRoots0f_p4⟩
        · replace h4 := not_ex h4
          exact ⟨σ, planeRoots0f_A5, up_eq, (orc_cmp h0 (orc_cmp h3 (orc_noroot h4 (orc_ne h1 (orc_ne h2 orc_nil))))), planeRoots0f_p5⟩
  · skip
    have h1 := normC (b := planeRoots0f_e5) (x := (.v 0)) (y := (.v 2)) (f := (.sub (.v 3) (.v 1))) (nz := [(.z 2)]) (varsA σ) (nz_cons (two_ne _) nz_nil) (by kernel_rfl) h0
    rcases cmpR_bound (RE.eval σ planeRoots0f_e16) (RE.eval σ (.z 0)) with h2 | h2 | h2
    · skip
      exact ⟨σ, planeRoots0f_A6, up_eq, (orc_cmp h2 (orc_ne h0 (orc_ne h1 orc_nil))), planeRoots0f_p6⟩
    · skip
      by_cases h3 : ∃ s : Rat, RE.eval σ planeRoots0f_e16 = s * s
      · replace h3 := up_root h3
        exact ⟨σ, planeRoots0f_A7, up_eq, (orc_cmp h2 (orc_root h3 (orc_ne h0 (orc_ne h1 orc_nil)))), planeRoots0f_p7⟩
      · replace h3 := not_ex h3
        exact ⟨σ, planeRoots0f_A8, up_eq, (orc_cmp h2 (orc_noroot h3 (orc_ne h0 (orc_ne h1 orc_nil)))), planeRoots0f_p8⟩
    · skip
      by_cases h3 : ∃ s : Rat, RE.eval σ planeRoots0f_e16 = s * s
      · replace h3 := up_root h3
        exact ⟨σ, planeRoots0f_A9, up_eq, (orc_cmp h2 (orc_root h3 (orc_ne h0 (orc_ne h1 orc_nil)))), planeRoots0f_p9⟩
      · replace h3 := not_ex h3
        exact ⟨σ, planeRoots0f_A10, up_eq, (orc_cmp h2 (orc_noroot h3 (orc_ne h0 (orc_ne h1 orc_nil)))), planeRoots0f_p10⟩

def planeRoots0t_e0 : RE := .mul (.sub (.v 2) (.v 0)) (.sub (.v 4) (.v 0))
def planeRoots0t_e1 : RE := .mul (.sub (.v 3) (.v 1)) (.sub (.v 5) (.v 1))
def planeRoots0t_e2 : RE := .add planeRoots0t_e0 planeRoots0t_e1
def planeRoots0t_e3 : RE := .mul (.sub (.v 2) (.v 0)) (.sub (.v 2) (.v 0))
def planeRoots0t_e4 : RE := .mul (.sub (.v 3) (.v 1)) (.sub (.v 3) (.v 1))
def planeRoots0t_e5 : RE := .add planeRoots0t_e3 planeRoots0t_e4
def planeRoots0t_e6 : RE := .div planeRoots0t_e2 planeRoots0t_e5
def planeRoots0t_e7 : RE := .mul planeRoots0t_e6 planeRoots0t_e6
def planeRoots0t_e8 : RE := .mul (.sub (.v 4) (.v 0)) (.sub (.v 4) (.v 0))
def planeRoots0t_e9 : RE := .mul (.sub (.v 5) (.v 1)) (.sub (.v 5) (.v 1))
def planeRoots0t_e10 : RE := .add planeRoots0t_e8 planeRoots0t_e9
def planeRoots0t_e11 : RE := .mul (.sub (.v 6) (.v 4)) (.sub (.v 6) (.v 4))
def planeRoots0t_e12 : RE := .mul (.sub (.v 7) (.v 5)) (.sub (.v 7) (.v 5))
def planeRoots0t_e13 : RE := .add planeRoots0t_e11 planeRoots0t_e12
def planeRoots0t_e14 : RE := .sub planeRoots0t_e10 planeRoots0t_e13
def planeRoots0t_e15 : RE := .div planeRoots0t_e14 planeRoots0t_e5
def planeRoots0t_e16 : RE := .sub planeRoots0t_e7 planeRoots0t_e15
def planeRoots0t_A0 : Orc := { cmp := [((.v 0), (.v 2), 0), ((.v 1), (.v 3), 0)] }
theorem planeRoots0t_p0  : (stepN Tryz.prog (ctrA planeRoots0t_A0) 20 5 planeRoots_c (V13 true Tryz.f7) 2).map (digest (planeRoots_k0 true) 47) = some (planeRoots_k0 true).want := by kernel_rfl
def planeRoots0t_A1 : Orc := { cmp := [((.v 0), (.v 2), 0), (planeRoots0t_e16, (.z 0), -1)], ne := [((.v 1), (.v 3)), (planeRoots0t_e5, (.z 0))] }
theorem planeRoots0t_p1  : (stepN Tryz.prog (ctrA planeRoots0t_A1) 20 5 planeRoots_c (V13 true Tryz.f7) 2).map (digest (planeRoots_k0 true) 47) = some (planeRoots_k0 true).want := by kernel_rfl
def planeRoots0t_A2 : Orc := { cmp := [((.v 0), (.v 2), 0), (planeRoots0t_e16, (.z 0), 0)], sq := [(planeRoots0t_e16, some (.v 9))], ne := [((.v 1), (.v 3)), (planeRoots0t_e5, (.z 0))] }
theorem planeRoots0t_p2  : (stepN Tryz.prog (ctrA planeRoots0t_A2) 20 5 planeRoots_c (V13 true Tryz.f7) 2).map (digest (planeRoots_k0 true) 47) = some (planeRoots_k0 true).want := by kernel_rfl
def planeRoots0t_A3 : Orc := { cmp := [((.v 0), (.v 2), 0), (planeRoots0t_e16, (.z 0), 0)], sq := [(planeRoots0t_e16, none)], ne := [((.v 1), (.v 3)), (planeRoots0t_e5, (.z 0))] }
theorem planeRoots0t_p3  : (stepN Tryz.prog (ctrA planeRoots0t_A3) 20 5 planeRoots_c (V13 true Tryz.f7) 2).map (digest (planeRoots_k0 true) 47) = some (planeRoots_k0 true).want := by kernel_rfl
def planeRoots0t_A4 : Orc := { cmp := [((.v 0), (.v 2), 0), (planeRoots0t_e16, (.z 0), 1)], sq := [(planeRoots0t_e16, some (.v 9))], ne := [((.v 1), (.v 3)), (planeRoots0t_e5, (.z 0))] }
theorem planeRoots0t_p4  : (stepN Tryz.prog (ctrA planeRoots0t_A4) 20 5 planeRoots_c (V13 true Tryz.f7) 2).map (digest (planeRoots_k0 true) 47) = some (planeRoots_k0 true).want := by kernel_rfl
def planeRoots0t_A5 : Orc := { cmp := [((.v 0), (.v 2), 0), (planeRoots0t_e16, (.z 0), 1)], sq := [(planeRoots0t_e16, none)], ne := [((.v 1), (.v 3)), (planeRoots0t_e5, (.z 0))] }
theorem planeRoots0t_p5  : (stepN Tryz.prog (ctrA planeRoots0t_A5) 20 5 planeRoots_c (V13 true Tryz.f7) 2).map (digest (planeRoots_k0 true) 47) = some (planeRoots_k0 true).want := by kernel_rfl
def planeRoots0t_A6 : Orc := { cmp := [(planeRoots0t_e16, (.z 0), -1)], ne := [((.v 0), (.v 2)), (planeRoots0t_e5, (.z 0))] }
theorem planeRoots0t_p6  : (stepN Tryz.prog (ctrA planeRoots0t_A6) 20 5 planeRoots_c (V13 true Tryz.f7) 2).map (digest (planeRoots_k0 true) 47) = some (planeRoots_k0 true).want := by kernel_rfl
def planeRoots0t_A7 : Orc := { cmp := [(planeRoots0t_e16, (.z 0), 0)], sq := [(planeRoots0t_e16, some (.v 9))], ne := [((.v 0), (.v 2)), (planeRoots0t_e5, (.z 0))] }
theorem planeRoots0t_p7  : (stepN Tryz.prog (ctrA planeRoots0t_A7) 20 5 planeRoots_c (V13 true Tryz.f7) 2).map (digest (planeRoots_k0 true) 47) = some (planeRoots_k0 true).want := by kernel_rfl
def planeRoots0t_A8 : Orc := { cmp := [(planeRoots0t_e16, (.z 0), 0)], sq := [(planeRoots0t_e16, none)], ne := [((.v 0), (.v 2)), (planeRoots0t_e5, (.z 0))] }
theorem planeRoots0t_p8  : (stepN Tryz.prog (ctrA planeRoots0t_A8) 20 5 planeRoots_c (V13 true Tryz.f7) 2).map (digest (planeRoots_k0 true) 47) = some (planeRoots_k0 true).want := by kernel_rfl
def planeRoots0t_A9 : Orc := { cmp := [(planeRoots0t_e16, (.z 0), 1)], sq := [(planeRoots0t_e16, some (.v 9))], ne := [((.v 0), (.v 2)), (planeRoots0t_e5, (.z 0))] }
theorem planeRoots0t_p9  : (stepN Tryz.prog (ctrA planeRoots0t_A9) 20 5 planeRoots_c (V13 true Tryz.f7) 2).map (digest (planeRoots_k0 true) 47) = some (planeRoots_k0 true).want := by kernel_rfl
def planeRoots0t_A10 : Orc := { cmp := [(planeRoots0t_e16, (.z 0), 1)], sq := [(planeRoots0t_e16, none)], ne := [((.v 0), (.v 2)), (planeRoots0t_e5, (.z 0))] }
theorem planeRoots0t_p10  : (stepN Tryz.prog (ctrA planeRoots0t_A10) 20 5 planeRoots_c (V13 true Tryz.f7) 2).map (digest (planeRoots_k0 true) 47) = some (planeRoots_k0 true).want := by kernel_rfl
theorem planeRoots0t_dec (ρ : Nat → Rat)  : ∃ (ρ' : Nat → Rat) (A : Orc), (∀ k, k < 9 → ρ' k = ρ k) ∧ A.OK ρ' ∧ (stepN Tryz.prog (ctrA A) 20 5 planeRoots_c (V13 true Tryz.f7) 2).map (digest (planeRoots_k0 true) 47) = some (planeRoots_k0 true).want := by
  refine ex_up ρ planeRoots0t_e16 (by kernel_rfl) fun σ up_eq up_root => ?_
  by_cases h0 : RE.eval σ (.v 0) = RE.eval σ (.v 2)
  · have g0 := h0
    replace h0 := cmpR_zero.2 h0
    by_cases h1 : RE.eval σ (.v 1) = RE.eval σ (.v 3)
    · have g1 := h1
      replace h1 := cmpR_zero.2 h1
      exact ⟨σ, planeRoots0t_A0, up_eq, (orc_cmp h0 (orc_cmp h1 orc_nil)), planeRoots0t_p0⟩
    · skip
      have h2 := normC (b := planeRoots0t_e5) (x := (.v 1)) (y := (.v 3)) (f := (.sub (.v 2) (.v 0))) (nz := [(.z 2)]) (varsA_2 σ g0.symm) (nz_cons (two_ne _) nz_nil) (by kernel_rfl) h1
      rcases cmpR_bound (RE.eval σ planeRoots0t_e16) (RE.eval σ (.z 0)) with h3 | h3 | h3
      · skip
        exact ⟨σ, planeRoots0t_A1, up_eq, (orc_cmp h0 (orc_cmp h3 (orc_ne h1 (orc_ne h2 orc_nil)))), planeRoots0t_p1⟩
      · skip
        by_cases h4 : ∃ s : Rat, RE.eval σ planeRoots0t_e16 = s * s
        · replace h4 := up_root h4
          exact ⟨σ, planeRoots0t_A2, up_eq, (orc_cmp h0 (orc_cmp h3 (orc_root h4 (orc_ne h1 (orc_ne h2 orc_nil))))), planeRoots0t_p2⟩
        · replace h4 := not_ex h4
          exact ⟨σ, planeRoots0t_A3, up_eq, (orc_cmp h0 (orc_cmp h3 (orc_noroot h4 (orc_ne h1 (orc_ne h2 orc_nil))))), planeRoots0t_p3⟩
      · skip
        by_cases h4 : ∃ s : Rat, RE.eval σ planeRoots0t_e16 = s * s
        · replace h4 := up_root h4
          exact ⟨σ, planeRoots0t_A4, up_eq, (orc_cmp h0 (orc_cmp h3 (orc_root h4 (orc_ne h1 (orc_ne h2 orc_nil))))), planeRoots0t_p4⟩
        · replace h4 := not_ex h4
          exact ⟨σ, planeRoots0t_A5, up_eq, (orc_cmp h0 (orc_cmp h3 (orc_noroot h4 (orc_ne h1 (orc_ne h2 orc_nil))))), planeRoots0t_p5⟩
  · skip
    have h1 := normC (b := planeRoots0t_e5) (x := (.v 0)) (y := (.v 2)) (f := (.sub (.v 3) (.v 1))) (nz := [(.z 2)]) (varsA σ) (nz_cons (two_ne _) nz_nil) (by kernel_rfl) h0
    rcases cmpR_bound (RE.eval σ planeRoots0t_e16) (RE.eval σ (.z 0)) with h2 | h2 | h2
    · skip
      exact ⟨σ, planeRoots0t_A6, up_eq, (orc_cmp h2 (orc_ne h0 (orc_ne h1 orc_nil))), planeRoots0t_p6⟩
    · skip
      by_cases h3 : ∃ s : Rat, RE.eval σ planeRoots0t_e16 = s * s
      · replace h3 := up_root h3
        exact ⟨σ, planeRoots0t_A7, up_eq, (orc_cmp h2 (orc_root h3 (orc_ne h0 (orc_ne h1 orc_nil)))), planeRoots0t_p7⟩
      · replace h3 := not_ex h3
        exact ⟨σ, planeRoots0t_A8, up_eq, (orc_cmp h2 (orc_noroot h3 (orc_ne h0 (orc_ne h1 orc_nil)))), planeRoots0t_p8⟩
    · skip
      by_cases h3 : ∃ s : Rat, RE.eval σ planeRoots0t_e16 = s * s
      · replace h3 := up_root h3
        exact ⟨σ, planeRoots0t_A9, up_eq, (orc_cmp h2 (orc_root h3 (orc_ne h0 (orc_ne h1 orc_nil)))), planeRoots0t_p9⟩
      · replace h3 := not_ex h3
        exact ⟨σ, planeRoots0t_A10, up_eq, (orc_cmp h2 (orc_noroot h3 (orc_ne h0 (orc_ne h1 orc_nil)))), planeRoots0t_p10⟩

theorem planeRoots_q0 (fl : Bool) : PieceOK planeRoots_c (V13 fl Tryz.f7) 2 5 (planeRoots_k0 fl) 47 := by
  intro ρ
  cases fl
  · exact planeRoots0f_dec ρ
  · exact planeRoots0t_dec ρ
noncomputable def planeRoots_k1 (fl : Bool) : Keep KQ := { sl := [(1, .val false [.ptr 2 0]), (3, .val false [.ptr 21 0]), (5, .val false [.ptr 38 0])], bl := [(2, ⟨31, cells9 9 ++ [.lit (.bool fl)]⟩)], bx := [(21, 29, 6), (38, 29, 6)], ks := [(0, 0, .num 0 (.v 0) 2), (0, 1, .num 1 (.v 1) 2), (0, 2, .num 2 (.v 2) 2), (0, 3, .num 3 (.v 3) 2), (0, 4, .num 4 (.v 4) 2), (0, 5, .num 5 (.v 5) 2), (0, 6, .num 6 (.v 6) 2), (0, 7, .num 7 (.v 7) 2), (0, 8, .num 8 (.v 8) 2)], n := 103, ob := 2 }
def planeRoots1f_e0 : RE := .mul (.sub (.v 2) (.v 0)) (.sub (.v 2) (.v 0))
def planeRoots1f_e1 : RE := .mul (.sub (.v 3) (.v 1)) (.sub (.v 3) (.v 1))
def planeRoots1f_e2 : RE := .add planeRoots1f_e0 planeRoots1f_e1
def planeRoots1f_e3 : RE := .mul (.sub (.v 4) (.v 0)) (.sub (.v 4) (.v 0))
def planeRoots1f_e4 : RE := .mul (.sub (.v 5) (.v 1)) (.sub (.v 5) (.v 1))
def planeRoots1f_e5 : RE := .add planeRoots1f_e3 planeRoots1f_e4
def planeRoots1f_e6 : RE := .div planeRoots1f_e2 planeRoots1f_e5
def planeRoots1f_e7 : RE := .add planeRoots1f_e2 planeRoots1f_e5
def planeRoots1f_e8 : RE := .mul (.sub (.v 6) (.v 4)) (.sub (.v 6) (.v 4))
def planeRoots1f_e9 : RE := .mul (.sub (.v 7) (.v 5)) (.sub (.v 7) (.v 5))
def planeRoots1f_e10 : RE := .add planeRoots1f_e8 planeRoots1f_e9
def planeRoots1f_e11 : RE := .sub planeRoots1f_e7 planeRoots1f_e10
def planeRoots1f_e12 : RE := .mul (.z 2) planeRoots1f_e5
def planeRoots1f_e13 : RE := .div planeRoots1f_e11 planeRoots1f_e12
def planeRoots1f_e14 : RE := .mul planeRoots1f_e13 planeRoots1f_e13
def planeRoots1f_e15 : RE := .sub planeRoots1f_e6 planeRoots1f_e14
def planeRoots1f_A0 : Orc := { cmp := [((.v 0), (.v 4), 0), ((.v 1), (.v 5), 0)] }
theorem planeRoots1f_p0  : (stepN Tryz.prog (ctrA planeRoots1f_A0) 20 3 (restN 5 planeRoots_c) (planeRoots_k0 false).vn 47).map (digest (planeRoots_k1 false) 85) = some (planeRoots_k1 false).want := by kernel_rfl
def planeRoots1f_A1 : Orc := { cmp := [((.v 0), (.v 4), 0), (planeRoots1f_e15, (.z 0), -1)], ne := [((.v 1), (.v 5)), (planeRoots1f_e5, (.z 0)), (planeRoots1f_e12, (.z 0))] }
theorem planeRoots1f_p1  : (stepN Tryz.prog (ctrA planeRoots1f_A1) 20 3 (restN 5 planeRoots_c) (planeRoots_k0 false).vn 47).map (digest (planeRoots_k1 false) 85) = some (planeRoots_k1 false).want := by kernel_rfl
def planeRoots1f_A2 : Orc := { cmp := [((.v 0), (.v 4), 0), (planeRoots1f_e15, (.z 0), 0)], sq := [(planeRoots1f_e15, some (.v 9))], ne := [((.v 1), (.v 5)), (planeRoots1f_e5, (.z 0)), (planeRoots1f_e12, (.z 0))] }
theorem planeRoots1f_p2  : (stepN Tryz.prog (ctrA planeRoots1f_A2) 20 3 (restN 5 planeRoots_c) (planeRoots_k0 false).vn 47).map (digest (planeRoots_k1 false) 85) = some (planeRoots_k1 false).want := by kernel_rfl
def planeRoots1f_A3 : Orc := { cmp := [((.v 0), (.v 4), 0), (planeRoots1f_e15, (.z 0), 0)], sq := [(planeRoots1f_e15, none)], ne := [((.v 1), (.v 5)), (planeRoots1f_e5, (.z 0)), (planeRoots1f_e12, (.z 0))] }
theorem planeRoots1f_p3  : (stepN Tryz.prog (ctrA planeRoots1f_A3) 20 3 (restN 5 planeRoots_c) (planeRoots_k0 false).vn 47).map (digest (planeRoots_k1 false) 85) = some (planeRoots_k1 false).want := by kernel_rfl
def planeRoots1f_A4 : Orc := { cmp := [((.v 0), (.v 4), 0), (planeRoots1f_e15, (.z 0), 1)], sq := [(planeRoots1f_e15, some (.v 9))], ne := [((.v 1), (.v 5)), (planeRoots1f_e5, (.z 0)), (planeRoots1f_e12, (.z 0))] }
theorem planeRoots1f_p4  : (stepN Tryz.prog (ctrA planeRoots1f_A4) 20 3 (restN 5 planeRoots_c) (planeRoots_k0 false).vn 47).map (digest (planeRoots_k1 false) 85) = some (planeRoots_k1 false).want := by kernel_rfl
def planeRoots1f_A5 : Orc := { cmp := [((.v 0), (.v 4), 0), (planeRoots1f_e15, (.z 0), 1)], sq := [(planeRoots1f_e15, none)], ne := [((.v 1), (.v 5)), (planeRoots1f_e5, (.z 0)), (planeRoots1f_e12, (.z 0))] }
theorem planeRoots1f_p5  : (stepN Tryz.prog (ctrA planeRoots1f_A5) 20 3 (restN 5 planeRoots_c) (planeRoots_k0 false).vn 47).map (digest (planeRoots_k1 false) 85) = some (planeRoots_k1 false).want := by kernel_rfl
def planeRoots1f_A6 : Orc := { cmp := [(planeRoots1f_e15, (.z 0), -1)], ne := [((.v 0), (.v 4)), (planeRoots1f_e5, (.z 0)), (planeRoots1f_e12, (.z 0))] }
theorem planeRoots1f_p6  : (stepN Tryz.prog (ctrA planeRoots1f_A6) 20 3 (restN 5 planeRoots_c) (planeRoots_k0 false).vn 47).map (digest (planeRoots_k1 false) 85) = some (planeRoots_k1 false).want := by kernel_rfl
def planeRoots1f_A7 : Orc := { cmp := [(planeRoots1f_e15, (.z 0), 0)], sq := [(planeRoots1f_e15, some (.v 9))], ne := [((.v 0), (.v 4)), (planeRoots1f_e5, (.z 0)), (planeRoots1f_e12, (.z 0))] }
theorem planeRoots1f_p7  : (stepN Tryz.prog (ctrA planeRoots1f_A7) 20 3 (restN 5 planeRoots_c) (planeRoots_k0 false).vn 47).map (digest (planeRoots_k1 false) 85) = some (planeRoots_k1 false).want := by kernel_rfl
def planeRoots1f_A8 : Orc := { cmp := [(planeRoots1f_e15, (.z 0), 0)], sq := [(planeRoots1f_e15, none)], ne := [((.v 0), (.v 4)), (planeRoots1f_e5, (.z 0)), (planeRoots1f_e12, (.z 0))] }
theorem planeRoots1f_p8  : (stepN Tryz.prog (ctrA planeRoots1f_A8) 20 3 (restN 5 planeRoots_c) (planeRoots_k0 false).vn 47).map (digest (planeRoots_k1 false) 85) = some (planeRoots_k1 false).want := by kernel_rfl
def planeRoots1f_A9 : Orc := { cmp := [(planeRoots1f_e15, (.z 0), 1)], sq := [(planeRoots1f_e15, some (.v 9))], ne := [((.v 0), (.v 4)), (planeRoots1f_e5, (.z 0)), (planeRoots1f_e12, (.z 0))] }
theorem planeRoots1f_p9  : (stepN Tryz.prog (ctrA planeRoots1f_A9) 20 3 (restN 5 planeRoots_c) (planeRoots_k0 false).vn 47).map (digest (planeRoots_k1 false) 85) = some (planeRoots_k1 false).want := by kernel_rfl
def planeRoots1f_A10 : Orc := { cmp := [(planeRoots1f_e15, (.z 0), 1)], sq := [(planeRoots1f_e15, none)], ne := [((.v 0), (.v 4)), (planeRoots1f_e5, (.z 0)), (planeRoots1f_e12, (.z 0))] }
theorem planeRoots1f_p10  : (stepN Tryz.prog (ctrA planeRoots1f_A10) 20 3 (restN 5 planeRoots_c) (planeRoots_k0 false).vn 47).map (digest (planeRoots_k1 false) 85) = some (planeRoots_k1 false).want := by kernel_rfl
theorem planeRoots1f_dec (ρ : Nat → Rat)  : ∃ (ρ' : Nat → Rat) (A : Orc), (∀ k, k < 9 → ρ' k = ρ k) ∧ A.OK ρ' ∧ (stepN Tryz.prog (ctrA A) 20 3 (restN 5 planeRoots_c) (planeRoots_k0 false).vn 47).map (digest (planeRoots_k1 false) 85) = some (planeRoots_k1 false).want := by
  refine ex_up ρ planeRoots1f_e15 (by kernel_rfl) fun σ up_eq up_root => ?_
  by_cases h0 : RE.eval σ (.v 0) = RE.eval σ (.v 4)
  · have g0 := h0
    replace h0 := cmpR_zero.2 h0
    by_cases h1 : RE.eval σ (.v 1) = RE.eval σ (.v 5)
    · have g1 := h1
      replace h1 := cmpR_zero.2 h1
      exact ⟨σ, planeRoots1f_A0, up_eq, (orc_cmp h0 (orc_cmp h1 orc_nil)), planeRoots1f_p0⟩
    · skip
      have h2 := normC (b := planeRoots1f_e5) (x := (.v 1)) (y := (.v 5)) (f := (.sub (.v 4) (.v 0))) (nz := [(.z 2)]) (varsA_4 σ g0.symm) (nz_cons (two_ne _) nz_nil) (by kernel_rfl) h1
      have h3 := ne_like (likeC (x := planeRoots1f_e12) (y := (.z 0)) (k := (.z 2)) (p := planeRoots1f_e5) (q := (.z 0)) (nz := [planeRoots1f_e5, (.z 2)]) (varsA_4 σ g0.symm) (nz_cons h2 (nz_cons (two_ne _) nz_nil)) (by kernel_rfl)) (show ((2 : Int) : Rat) ≠ (0 : Rat) from by decide +kernel) h2
      rcases cmpR_bound (RE.eval σ planeRoots1f_e15) (RE.eval σ (.z 0)) with h4 | h4 | h4
      · skip
        exact ⟨σ, planeRoots1f_A1, up_eq, (orc_cmp h0 (orc_cmp h4 (orc_ne h1 (orc_ne h2 (orc_ne h3 orc_nil))))), planeRoots1f_p1⟩
      · skip
        by_cases h5 : ∃ s : Rat, RE.eval σ planeRoots1f_e15 = s * s
        · replace h5 := up_root h5
          exact ⟨σ, planeRoots1f_A2, up_eq, (orc_cmp h0 (orc_cmp h4 (orc_root h5 (orc_ne h1 (orc_ne h2 (orc_ne h3 orc_nil)))))), planeRoots1f_p2⟩
        · replace h5 := not_ex h5
          exact ⟨σ, planeRoots1f_A3, up_eq, (orc_cmp h0 (orc_cmp h4 (orc_noroot h5 (orc_ne h1 (orc_ne h2 (orc_ne h3 orc_nil)))))), planeRoots1f_p3⟩
      · skip
        by_cases h5 : ∃ s : Rat, RE.eval σ planeRoots1f_e15 = s * s
        · replace h5 := up_root h5
          exact ⟨σ, planeRoots1f_A4, up_eq, (orc_cmp h0 (orc_cmp h4 (orc_root h5 (orc_ne h1 (orc_ne h2 (orc_ne h3 orc_nil)))))), planeRoots1f_p4⟩
        · replace h5 := not_ex h5
          exact ⟨σ, planeRoots1f_A5, up_eq, (orc_cmp h0 (orc_cmp h4 (orc_noroot h5 (orc_ne h1 (orc_ne h2 (orc_ne h3 orc_nil)))))), planeRoots1f_p5⟩
  · skip
    have h1 := normC (b := planeRoots1f_e5) (x := (.v 0)) (y := (.v 4)) (f := (.sub (.v 5) (.v 1))) (nz := [(.z 2)]) (varsA σ) (nz_cons (two_ne _) nz_nil) (by kernel_rfl) h0
    have h2 := ne_like (likeC (x := planeRoots1f_e12) (y := (.z 0)) (k := (.z 2)) (p := planeRoots1f_e5) (q := (.z 0)) (nz := [planeRoots1f_e5, (.z 2)]) (varsA σ) (nz_cons h1 (nz_cons (two_ne _) nz_nil)) (by kernel_rfl)) (show ((2 : Int) : Rat) ≠ (0 : Rat) from by decide +kernel) h1
    rcases cmpR_bound (RE.eval σ planeRoots1f_e15) (RE.eval σ (.z 0)) with h3 | h3 | h3
    · skip
      exact ⟨σ, planeRoots1f_A6, up_eq, (orc_cmp h3 (orc_ne h0 (orc_ne h1 (orc_ne h2 orc_nil)))), planeRoots1f_p6⟩
    · skip
      by_cases h4 : ∃ s : Rat, RE.eval σ planeRoots1f_e15 = s * s
      · replace h4 := up_root h4
        exact ⟨σ, planeRoots1f_A7, up_eq, (orc_cmp h3 (orc_root h4 (orc_ne h0 (orc_ne h1 (orc_ne h2 orc_nil))))), planeRoots1f_p7⟩
      · replace h4 := not_ex h4
        exact ⟨σ, planeRoots1f_A8, up_eq, (orc_cmp h3 (orc_noroot h4 (orc_ne h0 (orc_ne h1 (orc_ne h2 orc_nil))))), planeRoots1f_p8⟩
    · skip
      by_cases h4 : ∃ s : Rat, RE.eval σ planeRoots1f_e15 = s * s
      · replace h4 := up_root h4
        exact ⟨σ, planeRoots1f_A9, up_eq, (orc_cmp h3 (orc_root h4 (orc_ne h0 (orc_ne h1 (orc_ne h2 orc_nil))))), planeRoots1f_p9⟩
      · replace h4 := not_ex h4
        exact ⟨σ, planeRoots1f_A10, up_eq, (orc_cmp h3 (orc_noroot h4 (orc_ne h0 (orc_ne h1 (orc_ne h2 orc_nil))))), planeRoots1f_p10⟩

def planeRoots1t_e0 : RE := .mul (.sub (.v 2) (.v 0)) (.sub (.v 2) (.v 0))
def planeRoots1t_e1 : RE := .mul (.sub (.v 3) (.v 1)) (.sub (.v 3) (.v 1))
def planeRoots1t_e2 : RE := .add planeRoots1t_e0 planeRoots1t_e1
def planeRoots1t_e3 : RE := .mul (.sub (.v 4) (.v 0)) (.sub (.v 4) (.v 0))
def planeRoots1t_e4 : RE := .mul (.sub (.v 5) (.v 1)) (.sub (.v 5) (.v 1))
def planeRoots1t_e5 : RE := .add planeRoots1t_e3 planeRoots1t_e4
def planeRoots1t_e6 : RE := .div planeRoots1t_e2 planeRoots1t_e5
def planeRoots1t_e7 : RE := .add planeRoots1t_e2 planeRoots1t_e5
def planeRoots1t_e8 : RE := .mul (.sub (.v 6) (.v 4)) (.sub (.v 6) (.v 4))
def planeRoots1t_e9 : RE := .mul (.sub (.v 7) (.v 5)) (.sub (.v 7) (.v 5))
def planeRoots1t_e10 : RE := .add planeRoots1t_e8 planeRoots1t_e9
def planeRoots1t_e11 : RE := .sub planeRoots1t_e7 planeRoots1t_e10
def planeRoots1t_e12 : RE := .mul (.z 2) planeRoots1t_e5
def planeRoots1t_e13 : RE := .div planeRoots1t_e11 planeRoots1t_e12
def planeRoots1t_e14 : RE := .mul planeRoots1t_e13 planeRoots1t_e13
def planeRoots1t_e15 : RE := .sub planeRoots1t_e6 planeRoots1t_e14
def planeRoots1t_A0 : Orc := { cmp := [((.v 0), (.v 4), 0), ((.v 1), (.v 5), 0)] }
theorem planeRoots1t_p0  : (stepN Tryz.prog (ctrA planeRoots1t_A0) 20 3 (restN 5 planeRoots_c) (planeRoots_k0 true).vn 47).map (digest (planeRoots_k1 true) 85) = some (planeRoots_k1 true).want := by kernel_rfl
def planeRoots1t_A1 : Orc := { cmp := [((.v 0), (.v 4), 0), (planeRoots1t_e15, (.z 0), -1)], ne := [((.v 1), (.v 5)), (planeRoots1t_e5, (.z 0)), (planeRoots1t_e12, (.z 0))] }
theorem planeRoots1t_p1  : (stepN Tryz.prog (ctrA planeRoots1t_A1) 20 3 (restN 5 planeRoots_c) (planeRoots_k0 true).vn 47).map (digest (planeRoots_k1 true) 85) = some (planeRoots_k1 true).want := by kernel_rfl
def planeRoots1t_A2 : Orc := { cmp := [((.v 0), (.v 4), 0), (planeRoots1t_e15, (.z 0), 0)], sq := [(planeRoots1t_e15, some (.v 9))], ne := [((.v 1), (.v 5)), (planeRoots1t_e5, (.z 0)), (planeRoots1t_e12, (.z 0))] }
theorem planeRoots1t_p2  : (stepN Tryz.prog (ctrA planeRoots1t_A2) 20 3 (restN 5 planeRoots_c) (planeRoots_k0 true).vn 47).map (digest (planeRoots_k1 true) 85) = some (planeRoots_k1 true).want := by kernel_rfl
def planeRoots1t_A3 : Orc := { cmp := [((.v 0), (.v 4), 0), (planeRoots1t_e15, (.z 0), 0)], sq := [(planeRoots1t_e15, none)], ne := [((.v 1), (.v 5)), (planeRoots1t_e5, (.z 0)), (planeRoots1t_e12, (.z 0))] }
theorem planeRoots1t_p3  : (stepN Tryz.prog (ctrA planeRoots1t_A3) 20 3 (restN 5 planeRoots_c) (planeRoots_k0 true).vn 47).map (digest (planeRoots_k1 true) 85) = some (planeRoots_k1 true).want := by kernel_rfl
def planeRoots1t_A4 : Orc := { cmp := [((.v 0), (.v 4), 0), (planeRoots1t_e15, (.z 0), 1)], sq := [(planeRoots1t_e15, some (.v 9))], ne := [((.v 1), (.v 5)), (planeRoots1t_e5, (.z 0)), (planeRoots1t_e12, (.z 0))] }
theorem planeRoots1t_p4  : (stepN Tryz.prog (ctrA planeRoots1t_A4) 20 3 (restN 5 planeRoots_c) (planeRoots_k0 true).vn 47).map (digest (planeRoots_k1 true) 85) = some (planeRoots_k1 true).want := by kernel_rfl
def planeRoots1t_A5 : Orc := { cmp := [((.v 0), (.v 4), 0), (planeRoots1t_e15, (.z 0), 1)], sq := [(planeRoots1t_e15, none)], ne := [((.v 1), (.v 5)), (planeRoots1t_e5, (.z 0)), (planeRoots1t_e12, (.z 0))] }
theorem planeRoots1t_p5  : (stepN Tryz.prog (ctrA planeRoots1t_A5) 20 3 (restN 5 planeRoots_c) (planeRoots_k0 true).vn 47).map (digest (planeRoots_k1 true) 85) = some (planeRoots_k1 true).want := by kernel_rfl
def planeRoots1t_A6 : Orc := { cmp := [(planeRoots1t_e15, (.z 0), -1)], ne := [((.v 0), (.v 4)), (planeRoots1t_e5, (.z 0)), (planeRoots1t_e12, (.z 0))] }
theorem planeRoots1t_p6  : (stepN Tryz.prog (ctrA planeRoots1t_A6) 20 3 (restN 5 planeRoots_c) (planeRoots_k0 true).vn 47).map (digest (planeRoots_k1 true) 85) = some (planeRoots_k1 true).want := by kernel_rfl
def planeRoots1t_A7 : Orc := { cmp := [(planeRoots1t_e15, (.z 0), 0)], sq := [(planeRoots1t_e15, some (.v 9))], ne := [((.v 0), (.v 4)), (planeRoots1t_e5, (.z 0)), (planeRoots1t_e12, (.z 0))] }
theorem planeRoots1t_p7  : (stepN Tryz.prog (ctrA planeRoots1t_A7) 20 3 (restN 5 planeRoots_c) (planeRoots_k0 true).vn 47).map (digest (planeRoots_k1 true) 85) = some (planeRoots_k1 true).want := by kernel_rfl
def planeRoots1t_A8 : Orc := { cmp := [(planeRoots1t_e15, (.z 0), 0)], sq := [(planeRoots1t_e15, none)], ne := [((.v 0), (.v 4)), (planeRoots1t_e5, (.z 0)), (planeRoots1t_e12, (.z 0))] }
theorem planeRoots1t_p8  : (stepN Tryz.prog (ctrA planeRoots1t_A8) 20 3 (restN 5 planeRoots_c) (planeRoots_k0 true).vn 47).map (digest (planeRoots_k1 true) 85) = some (planeRoots_k1 true).want := by kernel_rfl
def planeRoots1t_A9 : Orc := { cmp := [(planeRoots1t_e15, (.z 0), 1)], sq := [(planeRoots1t_e15, some (.v 9))], ne := [((.v 0), (.v 4)), (planeRoots1t_e5, (.z 0)), (planeRoots1t_e12, (.z 0))] }
theorem planeRoots1t_p9  : (stepN Tryz.prog (ctrA planeRoots1t_A9) 20 3 (restN 5 planeRoots_c) (planeRoots_k0 true).vn 47).map (digest (planeRoots_k1 true) 85) = some (planeRoots_k1 true).want := by kernel_rfl
def planeRoots1t_A10 : Orc := { cmp := [(planeRoots1t_e15, (.z 0), 1)], sq := [(planeRoots1t_e15, none)], ne := [((.v 0), (.v 4)), (planeRoots1t_e5, (.z 0)), (planeRoots1t_e12, (.z 0))] }
theorem planeRoots1t_p10  : (stepN Tryz.prog (ctrA planeRoots1t_A10) 20 3 (restN 5 planeRoots_c) (planeRoots_k0 true).vn 47).map (digest (planeRoots_k1 true) 85) = some (planeRoots_k1 true).want := by kernel_rfl
theorem planeRoots1t_dec (ρ : Nat → Rat)  : ∃ (ρ' : Nat → Rat) (A : Orc), (∀ k, k < 9 → ρ' k = ρ k) ∧ A.OK ρ' ∧ (stepN Tryz.prog (ctrA A) 20 3 (restN 5 planeRoots_c) (planeRoots_k0 true).vn 47).map (digest (planeRoots_k1 true) 85) = some (planeRoots_k1 true).want := by
  refine ex_up ρ planeRoots1t_e15 (by kernel_rfl) fun σ up_eq up_root => ?_
  by_cases h0 : RE.eval σ (.v 0) = RE.eval σ (.v 4)
  · have g0 := h0
    replace h0 := cmpR_zero.2 h0
    by_cases h1 : RE.eval σ (.v 1) = RE.eval σ (.v 5)
    · have g1 := h1
      replace h1 := cmpR_zero.2 h1
      exact ⟨σ, planeRoots1t_A0, up_eq, (orc_cmp h0 (orc_cmp h1 orc_nil)), planeRoots1t_p0⟩
    · skip
      have h2 := normC (b := planeRoots1t_e5) (x := (.v 1)) (y := (.v 5)) (f := (.sub (.v 4) (.v 0))) (nz := [(.z 2)]) (varsA_4 σ g0.symm) (nz_cons (two_ne _) nz_nil) (by kernel_rfl) h1
      have h3 := ne_like (likeC (x := planeRoots1t_e12) (y := (.z 0)) (k := (.z 2)) (p := planeRoots1t_e5) (q := (.z 0)) (nz := [planeRoots1t_e5, (.z 2)]) (varsA_4 σ g0.symm) (nz_cons h2 (nz_cons (two_ne _) nz_nil)) (by kernel_rfl)) (show ((2 : Int) : Rat) ≠ (0 : Rat) from by decide +kernel) h2
      rcases cmpR_bound (RE.eval σ planeRoots1t_e15) (RE.eval σ (.z 0)) with h4 | h4 | h4
      · skip
        exact ⟨σ, planeRoots1t_A1, up_eq, (orc_cmp h0 (orc_cmp h4 (orc_ne h1 (orc_ne h2 (orc_ne h3 orc_nil))))), planeRoots1t_p1⟩
      · skip
        by_cases h5 : ∃ s : Rat, RE.eval σ planeRoots1t_e15 = s * s
        · replace h5 := up_root h5
          exact ⟨σ, planeRoots1t_A2, up_eq, (orc_cmp h0 (orc_cmp h4 (orc_root h5 (orc_ne h1 (orc_ne h2 (orc_ne h3 orc_nil)))))), planeRoots1t_p2⟩
        · replace h5 := not_ex h5
          exact ⟨σ, planeRoots1t_A3, up_eq, (orc_cmp h0 (orc_cmp h4 (orc_noroot h5 (orc_ne h1 (orc_ne h2 (orc_ne h3 orc_nil)))))), planeRoots1t_p3⟩
      · skip
        by_cases h5 : ∃ s : Rat, RE.eval σ planeRoots1t_e15 = s * s
        · replace h5 := up_root h5
          exact ⟨σ, planeRoots1t_A4, up_eq, (orc_cmp h0 (orc_cmp h4 (orc_root h5 (orc_ne h1 (orc_ne h2 (orc_ne h3 orc_nil)))))), planeRoots1t_p4⟩
        · replace h5 := not_ex h5
          exact ⟨σ, planeRoots1t_A5, up_eq, (orc_cmp h0 (orc_cmp h4 (orc_noroot h5 (orc_ne h1 (orc_ne h2 (orc_ne h3 orc_nil)))))), planeRoots1t_p5⟩
  · skip
    have h1 := normC (b := planeRoots1t_e5) (x := (.v 0)) (y := (.v 4)) (f := (.sub (.v 5) (.v 1))) (nz := [(.z 2)]) (varsA σ) (nz_cons (two_ne _) nz_nil) (by kernel_rfl) h0
    have h2 := ne_like (likeC (x := planeRoots1t_e12) (y := (.z 0)) (k := (.z 2)) (p := planeRoots1t_e5) (q := (.z 0)) (nz := [planeRoots1t_e5, (.z 2)]) (varsA σ) (nz_cons h1 (nz_cons (two_ne _) nz_nil)) (by kernel_rfl)) (show ((2 : Int) : Rat) ≠ (0 : Rat) from by decide +kernel) h1
    rcases cmpR_bound (RE.eval σ planeRoots1t_e15) (RE.eval σ (.z 0)) with h3 | h3 | h3
    · skip
      exact ⟨σ, planeRoots1t_A6, up_eq, (orc_cmp h3 (orc_ne h0 (orc_ne h1 (orc_ne h2 orc_nil)))), planeRoots1t_p6⟩
    · skip
      by_cases h4 : ∃ s : Rat, RE.eval σ planeRoots1t_e15 = s * s
      · replace h4 := up_root h4
        exact ⟨σ, planeRoots1t_A7, up_eq, (orc_cmp h3 (orc_root h4 (orc_ne h0 (orc_ne h1 (orc_ne h2 orc_nil))))), planeRoots1t_p7⟩
      · replace h4 := not_ex h4
        exact ⟨σ, planeRoots1t_A8, up_eq, (orc_cmp h3 (orc_noroot h4 (orc_ne h0 (orc_ne h1 (orc_ne h2 orc_nil))))), planeRoots1t_p8⟩
    · skip
      by_cases h4 : ∃ s : Rat, RE.eval σ planeRoots1t_e15 = s * s
      · replace h4 := up_root h4
        exact ⟨σ, planeRoots1t_A9, up_eq, (orc_cmp h3 (orc_root h4 (orc_ne h0 (orc_ne h1 (orc_ne h2 orc_nil))))), planeRoots1t_p9⟩
      · replace h4 := not_ex h4
        exact ⟨σ, planeRoots1t_A10, up_eq, (orc_cmp h3 (orc_noroot h4 (orc_ne h0 (orc_ne h1 (orc_ne h2 orc_nil))))), planeRoots1t_p10⟩

theorem planeRoots_q1 (fl : Bool) : PieceOK (restN 5 planeRoots_c) (planeRoots_k0 fl).vn 47 3 (planeRoots_k1 fl) 85 := by
  intro ρ
  cases fl
  · exact planeRoots1f_dec ρ
  · exact planeRoots1t_dec ρ

def planeRoots2_A0 : Orc := { cmp := [((.v 0), (.v 2), 0), ((.v 1), (.v 3), 0)] }
theorem planeRoots2_p0 (fl : Bool) : (acode Tryz.prog (ctrA planeRoots2_A0) 20 (restN 3 (restN 5 planeRoots_c)) (planeRoots_k1 fl).vn 85).map (fin Tryz.f7) = yesF := by kernel_rfl
def planeRoots2_A1 : Orc := { cmp := [((.v 0), (.v 2), 0)], ne := [((.v 1), (.v 3))] }
theorem planeRoots2_p1 (fl : Bool) : (acode Tryz.prog (ctrA planeRoots2_A1) 20 (restN 3 (restN 5 planeRoots_c)) (planeRoots_k1 fl).vn 85).map (fin Tryz.f7) = yesF := by kernel_rfl
def planeRoots2_A2 : Orc := { ne := [((.v 0), (.v 2))] }
theorem planeRoots2_p2 (fl : Bool) : (acode Tryz.prog (ctrA planeRoots2_A2) 20 (restN 3 (restN 5 planeRoots_c)) (planeRoots_k1 fl).vn 85).map (fin Tryz.f7) = yesF := by kernel_rfl
theorem planeRoots2_dec (ρ : Nat → Rat) (fl : Bool) : ∃ (ρ' : Nat → Rat) (A : Orc), (∀ k, k < 9 → ρ' k = ρ k) ∧ A.OK ρ' ∧ (acode Tryz.prog (ctrA A) 20 (restN 3 (restN 5 planeRoots_c)) (planeRoots_k1 fl).vn 85).map (fin Tryz.f7) = yesF := by
  by_cases h0 : RE.eval ρ (.v 0) = RE.eval ρ (.v 2)
  · have g0 := h0
    replace h0 := cmpR_zero.2 h0
    by_cases h1 : RE.eval ρ (.v 1) = RE.eval ρ (.v 3)
    · have g1 := h1
      replace h1 := cmpR_zero.2 h1
      exact ⟨ρ, planeRoots2_A0, (fun _ _ => rfl), (orc_cmp h0 (orc_cmp h1 orc_nil)), planeRoots2_p0 fl⟩
    · skip
      exact ⟨ρ, planeRoots2_A1, (fun _ _ => rfl), (orc_cmp h0 (orc_ne h1 orc_nil)), planeRoots2_p1 fl⟩
  · skip
    exact ⟨ρ, planeRoots2_A2, (fun _ _ => rfl), (orc_ne h0 orc_nil), planeRoots2_p2 fl⟩

theorem planeRoots_q2 (fl : Bool) : LastOK Tryz.f7 (restN 3 (restN 5 planeRoots_c)) (planeRoots_k1 fl).vn 85 := fun ρ => planeRoots2_dec ρ fl
theorem planeRoots_walk {W : World} (T : Tb W) {F : Nat → List Value} {fl : Bool} (hF : ∀ k, k < 9 → NumR W (F k)) :
    Calls Tryz.prog 7 #[.agg (join9 F 9 ++ [Value.bool fl]).toArray] W fun e w' => e = .returned (.bool true) ∧ W.grownBy w' none := by
  refine law13P (c := planeRoots_c) Tryz.func7 Tryz.call7 (by kernel_rfl) (by kernel_rfl) T hF (fun k hk => ?_) fun hs ρ E a w Q h0 f0 hQ => ?_
  · match k, hk with
    | 0, _ => exact planeRoots_no0 fl
    | 1, _ => exact planeRoots_no1 fl
    | 2, _ => exact planeRoots_no2 fl
    | 3, _ => exact planeRoots_no3 fl
    | 4, _ => exact planeRoots_no4 fl
    | 5, _ => exact planeRoots_no5 fl
    | 6, _ => exact planeRoots_no6 fl
    | 7, _ => exact planeRoots_no7 fl
    | 8, _ => exact planeRoots_no8 fl
  refine piece13 T hs (planeRoots_q0 fl) (V13_sy fl _) (by kernel_rfl) h0 f0 fun E1 a1 w1 h1 f1 => ?_
  refine piece13 T hs (planeRoots_q1 fl) (SyOK.of_keep (by kernel_rfl)) (by kernel_rfl) h1 f1 fun E2 a2 w2 h2 f2 => ?_
  exact last13 T hs (planeRoots_q2 fl) (SyOK.of_keep (by kernel_rfl)) h2 f2 hQ
end Go.Proofs.YtgbfjneoieadmaaGreatDoor
