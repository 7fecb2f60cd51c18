/-
  CasesPredicateMakes, in one text.
-/
import Derived.Test.YtgbfjneoieadmaaGreatDoorMrQ4

set_option linter.unusedVariables false
set_option linter.unusedSimpArgs false
namespace Go.Proofs.YtgbfjneoieadmaaGreatDoor
open Go.RowKit Nm Go.Abs Go.Pn
open Go

def cells68 : List AC := [.sym 0 6 0, .sym 0 6 1, .sym 0 6 2, .sym 0 7 0, .sym 0 7 1, .sym 0 7 2, .sym 0 8 0, .sym 0 8 1, .sym 0 8 2]
def tauM (ρ : Nat → Rat) (k : Nat) : Rat := match k with
  | 2 => ρ 2 - ρ 0
  | 3 => ρ 3 - ρ 1
  | 4 => ρ 4 - ρ 0
  | 5 => ρ 5 - ρ 1
  | k => ρ k
theorem varsM (ρ : Nat → Rat) : VarsOK ρ (tauM ρ) [[(1, 1)], [(256, 1)], [(65536, 1), (1, 1)], [(16777216, 1), (256, 1)], [(4294967296, 1), (1, 1)], [(1099511627776, 1), (256, 1)], [(281474976710656, 1)], [(72057594037927936, 1)], [(18446744073709551616, 1)], [(4722366482869645213696, 1)]] := VarsFrom.ok <|
  .cons (show ρ 0 = evP (tauM ρ) [(1, 1)] from (evP_one (tauM ρ) (i := 0) (by decide) (by decide)).symm) (wb_one (i := 0) (by decide)) <|
  .cons (show ρ 1 = evP (tauM ρ) [(256, 1)] from (evP_one (tauM ρ) (i := 1) (by decide) (by decide)).symm) (wb_one (i := 1) (by decide)) <|
  .cons (by rw [evP_two (tauM ρ) (i := 2) (j := 0) (by decide) (by decide) (by decide) (by decide)]; show ρ 2 = ρ 2 - ρ 0 + ρ 0; grind) (wb_two (i := 2) (j := 0) (by decide) (by decide)) <|
  .cons (by rw [evP_two (tauM ρ) (i := 3) (j := 1) (by decide) (by decide) (by decide) (by decide)]; show ρ 3 = ρ 3 - ρ 1 + ρ 1; grind) (wb_two (i := 3) (j := 1) (by decide) (by decide)) <|
  .cons (by rw [evP_two (tauM ρ) (i := 4) (j := 0) (by decide) (by decide) (by decide) (by decide)]; show ρ 4 = ρ 4 - ρ 0 + ρ 0; grind) (wb_two (i := 4) (j := 0) (by decide) (by decide)) <|
  .cons (by rw [evP_two (tauM ρ) (i := 5) (j := 1) (by decide) (by decide) (by decide) (by decide)]; show ρ 5 = ρ 5 - ρ 1 + ρ 1; grind) (wb_two (i := 5) (j := 1) (by decide) (by decide)) <|
  .cons (show ρ 6 = evP (tauM ρ) [(281474976710656, 1)] from (evP_one (tauM ρ) (i := 6) (by decide) (by decide)).symm) (wb_one (i := 6) (by decide)) <|
  .cons (show ρ 7 = evP (tauM ρ) [(72057594037927936, 1)] from (evP_one (tauM ρ) (i := 7) (by decide) (by decide)).symm) (wb_one (i := 7) (by decide)) <|
  .cons (show ρ 8 = evP (tauM ρ) [(18446744073709551616, 1)] from (evP_one (tauM ρ) (i := 8) (by decide) (by decide)).symm) (wb_one (i := 8) (by decide)) <|
  .cons (show ρ 9 = evP (tauM ρ) [(4722366482869645213696, 1)] from (evP_one (tauM ρ) (i := 9) (by decide) (by decide)).symm) (wb_one (i := 9) (by decide)) <|
  .nil
theorem varsM_2 (ρ : Nat → Rat) (g2 : ρ 2 = ρ 0) : VarsOK ρ (tauM ρ) [[(1, 1)], [(256, 1)], [(1, 1)], [(16777216, 1), (256, 1)], [(4294967296, 1), (1, 1)], [(1099511627776, 1), (256, 1)], [(281474976710656, 1)], [(72057594037927936, 1)], [(18446744073709551616, 1)], [(4722366482869645213696, 1)]] := VarsFrom.ok <|
  .cons (show ρ 0 = evP (tauM ρ) [(1, 1)] from (evP_one (tauM ρ) (i := 0) (by decide) (by decide)).symm) (wb_one (i := 0) (by decide)) <|
  .cons (show ρ 1 = evP (tauM ρ) [(256, 1)] from (evP_one (tauM ρ) (i := 1) (by decide) (by decide)).symm) (wb_one (i := 1) (by decide)) <|
  .cons (show ρ 2 = evP (tauM ρ) [(1, 1)] from g2.trans (evP_one (tauM ρ) (i := 0) (by decide) (by decide)).symm) (wb_one (i := 0) (by decide)) <|
  .cons (by rw [evP_two (tauM ρ) (i := 3) (j := 1) (by decide) (by decide) (by decide) (by decide)]; show ρ 3 = ρ 3 - ρ 1 + ρ 1; grind) (wb_two (i := 3) (j := 1) (by decide) (by decide)) <|
  .cons (by rw [evP_two (tauM ρ) (i := 4) (j := 0) (by decide) (by decide) (by decide) (by decide)]; show ρ 4 = ρ 4 - ρ 0 + ρ 0; grind) (wb_two (i := 4) (j := 0) (by decide) (by decide)) <|
  .cons (by rw [evP_two (tauM ρ) (i := 5) (j := 1) (by decide) (by decide) (by decide) (by decide)]; show ρ 5 = ρ 5 - ρ 1 + ρ 1; grind) (wb_two (i := 5) (j := 1) (by decide) (by decide)) <|
  .cons (show ρ 6 = evP (tauM ρ) [(281474976710656, 1)] from (evP_one (tauM ρ) (i := 6) (by decide) (by decide)).symm) (wb_one (i := 6) (by decide)) <|
  .cons (show ρ 7 = evP (tauM ρ) [(72057594037927936, 1)] from (evP_one (tauM ρ) (i := 7) (by decide) (by decide)).symm) (wb_one (i := 7) (by decide)) <|
  .cons (show ρ 8 = evP (tauM ρ) [(18446744073709551616, 1)] from (evP_one (tauM ρ) (i := 8) (by decide) (by decide)).symm) (wb_one (i := 8) (by decide)) <|
  .cons (show ρ 9 = evP (tauM ρ) [(4722366482869645213696, 1)] from (evP_one (tauM ρ) (i := 9) (by decide) (by decide)).symm) (wb_one (i := 9) (by decide)) <|
  .nil
theorem varsM_2_3 (ρ : Nat → Rat) (g2 : ρ 2 = ρ 0) (g3 : ρ 3 = ρ 1) : VarsOK ρ (tauM ρ) [[(1, 1)], [(256, 1)], [(1, 1)], [(256, 1)], [(4294967296, 1), (1, 1)], [(1099511627776, 1), (256, 1)], [(281474976710656, 1)], [(72057594037927936, 1)], [(18446744073709551616, 1)], [(4722366482869645213696, 1)]] := VarsFrom.ok <|
  .cons (show ρ 0 = evP (tauM ρ) [(1, 1)] from (evP_one (tauM ρ) (i := 0) (by decide) (by decide)).symm) (wb_one (i := 0) (by decide)) <|
  .cons (show ρ 1 = evP (tauM ρ) [(256, 1)] from (evP_one (tauM ρ) (i := 1) (by decide) (by decide)).symm) (wb_one (i := 1) (by decide)) <|
  .cons (show ρ 2 = evP (tauM ρ) [(1, 1)] from g2.trans (evP_one (tauM ρ) (i := 0) (by decide) (by decide)).symm) (wb_one (i := 0) (by decide)) <|
  .cons (show ρ 3 = evP (tauM ρ) [(256, 1)] from g3.trans (evP_one (tauM ρ) (i := 1) (by decide) (by decide)).symm) (wb_one (i := 1) (by decide)) <|
  .cons (by rw [evP_two (tauM ρ) (i := 4) (j := 0) (by decide) (by decide) (by decide) (by decide)]; show ρ 4 = ρ 4 - ρ 0 + ρ 0; grind) (wb_two (i := 4) (j := 0) (by decide) (by decide)) <|
  .cons (by rw [evP_two (tauM ρ) (i := 5) (j := 1) (by decide) (by decide) (by decide) (by decide)]; show ρ 5 = ρ 5 - ρ 1 + ρ 1; grind) (wb_two (i := 5) (j := 1) (by decide) (by decide)) <|
  .cons (show ρ 6 = evP (tauM ρ) [(281474976710656, 1)] from (evP_one (tauM ρ) (i := 6) (by decide) (by decide)).symm) (wb_one (i := 6) (by decide)) <|
  .cons (show ρ 7 = evP (tauM ρ) [(72057594037927936, 1)] from (evP_one (tauM ρ) (i := 7) (by decide) (by decide)).symm) (wb_one (i := 7) (by decide)) <|
  .cons (show ρ 8 = evP (tauM ρ) [(18446744073709551616, 1)] from (evP_one (tauM ρ) (i := 8) (by decide) (by decide)).symm) (wb_one (i := 8) (by decide)) <|
  .cons (show ρ 9 = evP (tauM ρ) [(4722366482869645213696, 1)] from (evP_one (tauM ρ) (i := 9) (by decide) (by decide)).symm) (wb_one (i := 9) (by decide)) <|
  .nil

noncomputable def predicateMakes_args : List AV := [.val true (cells9 6), .val true cells68]
noncomputable def predicateMakes_c : Code := bodyOf Tryz.f14
theorem predicateMakes_no0 : NoOK 9 predicateMakes_args Tryz.f14 predicateMakes_c 0 := ⟨{}, orc_nil, by kernel_rfl⟩
theorem predicateMakes_no1 : NoOK 9 predicateMakes_args Tryz.f14 predicateMakes_c 1 := ⟨{}, orc_nil, by kernel_rfl⟩
theorem predicateMakes_no2 : NoOK 9 predicateMakes_args Tryz.f14 predicateMakes_c 2 := ⟨{}, orc_nil, by kernel_rfl⟩
theorem predicateMakes_no3 : NoOK 9 predicateMakes_args Tryz.f14 predicateMakes_c 3 := ⟨{}, orc_nil, by kernel_rfl⟩
theorem predicateMakes_no4 : NoOK 9 predicateMakes_args Tryz.f14 predicateMakes_c 4 := ⟨{}, orc_nil, by kernel_rfl⟩
theorem predicateMakes_no5 : NoOK 9 predicateMakes_args Tryz.f14 predicateMakes_c 5 := ⟨{}, orc_nil, by kernel_rfl⟩
theorem predicateMakes_no6 : NoOK 9 predicateMakes_args Tryz.f14 predicateMakes_c 6 := ⟨{}, orc_nil, by kernel_rfl⟩
theorem predicateMakes_no7 : NoOK 9 predicateMakes_args Tryz.f14 predicateMakes_c 7 := ⟨{}, orc_nil, by kernel_rfl⟩
theorem predicateMakes_no8 : NoOK 9 predicateMakes_args Tryz.f14 predicateMakes_c 8 := ⟨{}, orc_nil, by kernel_rfl⟩
noncomputable def predicateMakes_k0 : Keep KQ := { sl := [(2, .val false [.ptr 2 0]), (3, .val false [.ptr 3 0]), (5, .val false [.ptr 32 0]), (6, .val false [.ptr 33 0]), (7, .val false [.ptr 34 0])], bl := [(2, ⟨73, cells9 6⟩), (3, ⟨74, cells68⟩), (32, ⟨29, [.sym 0 0 0, .sym 0 0 1, .sym 0 0 2, .sym 0 1 0, .sym 0 1 1, .sym 0 1 2]⟩), (33, ⟨29, [.sym 0 2 0, .sym 0 2 1, .sym 0 2 2, .sym 0 3 0, .sym 0 3 1, .sym 0 3 2]⟩), (34, ⟨29, [.sym 0 4 0, .sym 0 4 1, .sym 0 4 2, .sym 0 5 0, .sym 0 5 1, .sym 0 5 2]⟩)], bx := [], ks := [(0, 0, .num 0 (.v 0) 2), (0, 1, .num 1 (.v 1) 2), (0, 2, .num 2 (.v 2) 2), (0, 3, .num 3 (.v 3) 2), (0, 4, .num 4 (.v 4) 2), (0, 5, .num 5 (.v 5) 2), (0, 6, .num 6 (.v 6) 2), (0, 7, .num 7 (.v 7) 2), (0, 8, .num 8 (.v 8) 2)], n := 115, ob := 2 }
def predicateMakes0_e0 : RE := .mul (.sub (.v 2) (.v 0)) (.div (.z 1) (.z 2))
def predicateMakes0_e1 : RE := .add (.v 0) predicateMakes0_e0
def predicateMakes0_e2 : RE := .sub (.v 0) predicateMakes0_e1
def predicateMakes0_e3 : RE := .sub predicateMakes0_e1 (.v 2)
def predicateMakes0_e4 : RE := .sub predicateMakes0_e2 predicateMakes0_e3
def predicateMakes0_e5 : RE := .mul (.sub (.v 3) (.v 1)) (.div (.z 1) (.z 2))
def predicateMakes0_e6 : RE := .add (.v 1) predicateMakes0_e5
def predicateMakes0_e7 : RE := .sub (.v 1) predicateMakes0_e6
def predicateMakes0_e8 : RE := .sub predicateMakes0_e6 (.v 3)
def predicateMakes0_e9 : RE := .sub predicateMakes0_e7 predicateMakes0_e8
def predicateMakes0_A0 : Orc := { cmp := [(predicateMakes0_e4, (.z 0), 0), (predicateMakes0_e9, (.z 0), 0)] }
theorem predicateMakes0_p0  : (stepN Tryz.prog (ctrB predicateMakes0_A0 (yesN 9)) 20 4 predicateMakes_c (VB predicateMakes_args 9 Tryz.f14) 2).map (digest predicateMakes_k0 48) = some predicateMakes_k0.want := by kernel_rfl
theorem predicateMakes0_dec (ρ : Nat → Rat)  : ∃ (ρ' : Nat → Rat) (A : Orc), (∀ k, k < 9 → ρ' k = ρ k) ∧ A.OK ρ' ∧ (stepN Tryz.prog (ctrB A (yesN 9)) 20 4 predicateMakes_c (VB predicateMakes_args 9 Tryz.f14) 2).map (digest predicateMakes_k0 48) = some predicateMakes_k0.want := by
  have h0 := cmpR_zero.2 (eqC (x := predicateMakes0_e4) (y := (.z 0)) (nz := [(.z 2)]) (varsM ρ) (nz_cons (two_ne _) nz_nil) (by kernel_rfl))
  have h1 := cmpR_zero.2 (eqC (x := predicateMakes0_e9) (y := (.z 0)) (nz := [(.z 2)]) (varsM ρ) (nz_cons (two_ne _) nz_nil) (by kernel_rfl))
  exact ⟨ρ, predicateMakes0_A0, (fun _ _ => rfl), (orc_cmp h0 (orc_cmp h1 orc_nil)), predicateMakes0_p0⟩

theorem predicateMakes_q0 : PieceOK 9 predicateMakes_c (VB predicateMakes_args 9 Tryz.f14) 2 4 predicateMakes_k0 48 := fun ρ => predicateMakes0_dec ρ
noncomputable def predicateMakes_k1 : Keep KQ := { sl := [(2, .val false [.ptr 2 0]), (3, .val false [.ptr 3 0]), (5, .val false [.ptr 32 0]), (6, .val false [.ptr 33 0]), (7, .val false [.ptr 34 0])], bl := [(2, ⟨73, cells9 6⟩), (3, ⟨74, cells68⟩), (32, ⟨29, [.sym 0 0 0, .sym 0 0 1, .sym 0 0 2, .sym 0 1 0, .sym 0 1 1, .sym 0 1 2]⟩), (33, ⟨29, [.sym 0 2 0, .sym 0 2 1, .sym 0 2 2, .sym 0 3 0, .sym 0 3 1, .sym 0 3 2]⟩), (34, ⟨29, [.sym 0 4 0, .sym 0 4 1, .sym 0 4 2, .sym 0 5 0, .sym 0 5 1, .sym 0 5 2]⟩)], bx := [], ks := [(0, 0, .num 0 (.v 0) 2), (0, 1, .num 1 (.v 1) 2), (0, 2, .num 2 (.v 2) 2), (0, 3, .num 3 (.v 3) 2), (0, 4, .num 4 (.v 4) 2), (0, 5, .num 5 (.v 5) 2), (0, 6, .num 6 (.v 6) 2), (0, 7, .num 7 (.v 7) 2), (0, 8, .num 8 (.v 8) 2)], n := 115, ob := 2 }
def predicateMakes1_e0 : RE := .mul (.sub (.v 2) (.v 0)) (.sub (.v 2) (.v 0))
def predicateMakes1_e1 : RE := .mul (.sub (.v 3) (.v 1)) (.sub (.v 3) (.v 1))
def predicateMakes1_e2 : RE := .add predicateMakes1_e0 predicateMakes1_e1
def predicateMakes1_e3 : RE := .mul (.sub (.v 4) (.v 0)) (.sub (.v 4) (.v 0))
def predicateMakes1_e4 : RE := .mul (.sub (.v 5) (.v 1)) (.sub (.v 5) (.v 1))
def predicateMakes1_e5 : RE := .add predicateMakes1_e3 predicateMakes1_e4
def predicateMakes1_e6 : RE := .mul (.sub (.v 2) (.v 0)) (.sub (.v 4) (.v 0))
def predicateMakes1_e7 : RE := .mul (.sub (.v 3) (.v 1)) (.sub (.v 5) (.v 1))
def predicateMakes1_e8 : RE := .add predicateMakes1_e6 predicateMakes1_e7
def predicateMakes1_e9 : RE := .div predicateMakes1_e8 predicateMakes1_e2
def predicateMakes1_e10 : RE := .mul (.sub (.v 2) (.v 0)) predicateMakes1_e9
def predicateMakes1_e11 : RE := .add (.v 0) predicateMakes1_e10
def predicateMakes1_e12 : RE := .sub predicateMakes1_e11 (.v 4)
def predicateMakes1_e13 : RE := .add predicateMakes1_e11 predicateMakes1_e12
def predicateMakes1_e14 : RE := .sub predicateMakes1_e13 (.v 0)
def predicateMakes1_e15 : RE := .mul predicateMakes1_e14 predicateMakes1_e14
def predicateMakes1_e16 : RE := .mul (.sub (.v 3) (.v 1)) predicateMakes1_e9
def predicateMakes1_e17 : RE := .add (.v 1) predicateMakes1_e16
def predicateMakes1_e18 : RE := .sub predicateMakes1_e17 (.v 5)
def predicateMakes1_e19 : RE := .add predicateMakes1_e17 predicateMakes1_e18
def predicateMakes1_e20 : RE := .sub predicateMakes1_e19 (.v 1)
def predicateMakes1_e21 : RE := .mul predicateMakes1_e20 predicateMakes1_e20
def predicateMakes1_e22 : RE := .add predicateMakes1_e15 predicateMakes1_e21
def predicateMakes1_e23 : RE := .sub predicateMakes1_e5 predicateMakes1_e22
def predicateMakes1_e24 : RE := .sub predicateMakes1_e13 (.v 4)
def predicateMakes1_e25 : RE := .mul (.sub (.v 2) (.v 0)) predicateMakes1_e24
def predicateMakes1_e26 : RE := .sub predicateMakes1_e19 (.v 5)
def predicateMakes1_e27 : RE := .mul (.sub (.v 3) (.v 1)) predicateMakes1_e26
def predicateMakes1_e28 : RE := .add predicateMakes1_e25 predicateMakes1_e27
def predicateMakes1_A0 : Orc := { cmp := [((.v 0), (.v 2), 0), ((.v 1), (.v 3), 0)] }
theorem predicateMakes1_p0  : (stepN Tryz.prog (ctrB predicateMakes1_A0 (yesN 9)) 20 2 (restN 4 predicateMakes_c) predicateMakes_k0.vn 48).map (digest predicateMakes_k1 79) = some predicateMakes_k1.want := by kernel_rfl
def predicateMakes1_A1 : Orc := { cmp := [((.v 0), (.v 2), 0), (predicateMakes1_e23, (.z 0), 0), (predicateMakes1_e28, (.z 0), 0)], ne := [((.v 1), (.v 3)), (predicateMakes1_e2, (.z 0))] }
theorem predicateMakes1_p1  : (stepN Tryz.prog (ctrB predicateMakes1_A1 (yesN 9)) 20 2 (restN 4 predicateMakes_c) predicateMakes_k0.vn 48).map (digest predicateMakes_k1 79) = some predicateMakes_k1.want := by kernel_rfl
def predicateMakes1_A2 : Orc := { cmp := [(predicateMakes1_e23, (.z 0), 0), (predicateMakes1_e28, (.z 0), 0)], ne := [((.v 0), (.v 2)), (predicateMakes1_e2, (.z 0))] }
theorem predicateMakes1_p2  : (stepN Tryz.prog (ctrB predicateMakes1_A2 (yesN 9)) 20 2 (restN 4 predicateMakes_c) predicateMakes_k0.vn 48).map (digest predicateMakes_k1 79) = some predicateMakes_k1.want := by kernel_rfl
theorem predicateMakes1_dec (ρ : Nat → Rat)  : ∃ (ρ' : Nat → Rat) (A : Orc), (∀ k, k < 9 → ρ' k = ρ k) ∧ A.OK ρ' ∧ (stepN Tryz.prog (ctrB A (yesN 9)) 20 2 (restN 4 predicateMakes_c) predicateMakes_k0.vn 48).map (digest predicateMakes_k1 79) = some predicateMakes_k1.want := by
  by_cases h0 : RE.eval ρ (.v 0) = RE.eval ρ (.v 2)
  · have g0 := h0
    replace h0 := cmpR_zero.2 h0
    by_cases h1 : RE.eval ρ (.v 1) = RE.eval ρ (.v 3)
    · have g1 := h1
      replace h1 := cmpR_zero.2 h1
      exact ⟨ρ, predicateMakes1_A0, (fun _ _ => rfl), (orc_cmp h0 (orc_cmp h1 orc_nil)), predicateMakes1_p0⟩
    · skip
      have h2 := normC (b := predicateMakes1_e2) (x := (.v 1)) (y := (.v 3)) (f := (.sub (.v 2) (.v 0))) (nz := [(.z 2)]) (varsM_2 ρ g0.symm) (nz_cons (two_ne _) nz_nil) (by kernel_rfl) h1
      have h3 := cmpR_zero.2 (eqC (x := predicateMakes1_e23) (y := (.z 0)) (nz := [predicateMakes1_e2, (.z 2)]) (varsM_2 ρ g0.symm) (nz_cons h2 (nz_cons (two_ne _) nz_nil)) (by kernel_rfl))
      have h4 := cmpR_zero.2 (eqC (x := predicateMakes1_e28) (y := (.z 0)) (nz := [predicateMakes1_e2, (.z 2)]) (varsM_2 ρ g0.symm) (nz_cons h2 (nz_cons (two_ne _) nz_nil)) (by kernel_rfl))
      exact ⟨ρ, predicateMakes1_A1, (fun _ _ => rfl), (orc_cmp h0 (orc_cmp h3 (orc_cmp h4 (orc_ne h1 (orc_ne h2 orc_nil))))), predicateMakes1_p1⟩
  · skip
    have h1 := normC (b := predicateMakes1_e2) (x := (.v 0)) (y := (.v 2)) (f := (.sub (.v 3) (.v 1))) (nz := [(.z 2)]) (varsM ρ) (nz_cons (two_ne _) nz_nil) (by kernel_rfl) h0
    have h2 := cmpR_zero.2 (eqC (x := predicateMakes1_e23) (y := (.z 0)) (nz := [predicateMakes1_e2, (.z 2)]) (varsM ρ) (nz_cons h1 (nz_cons (two_ne _) nz_nil)) (by kernel_rfl))
    have h3 := cmpR_zero.2 (eqC (x := predicateMakes1_e28) (y := (.z 0)) (nz := [predicateMakes1_e2, (.z 2)]) (varsM ρ) (nz_cons h1 (nz_cons (two_ne _) nz_nil)) (by kernel_rfl))
    exact ⟨ρ, predicateMakes1_A2, (fun _ _ => rfl), (orc_cmp h2 (orc_cmp h3 (orc_ne h0 (orc_ne h1 orc_nil)))), predicateMakes1_p2⟩

theorem predicateMakes_q1 : PieceOK 9 (restN 4 predicateMakes_c) predicateMakes_k0.vn 48 2 predicateMakes_k1 79 := fun ρ => predicateMakes1_dec ρ
noncomputable def predicateMakes_k2 : Keep KQ := { sl := [(2, .val false [.ptr 2 0]), (3, .val false [.ptr 3 0]), (5, .val false [.ptr 32 0]), (6, .val false [.ptr 33 0]), (7, .val false [.ptr 34 0])], bl := [(2, ⟨73, cells9 6⟩), (3, ⟨74, cells68⟩), (32, ⟨29, [.sym 0 0 0, .sym 0 0 1, .sym 0 0 2, .sym 0 1 0, .sym 0 1 1, .sym 0 1 2]⟩), (33, ⟨29, [.sym 0 2 0, .sym 0 2 1, .sym 0 2 2, .sym 0 3 0, .sym 0 3 1, .sym 0 3 2]⟩), (34, ⟨29, [.sym 0 4 0, .sym 0 4 1, .sym 0 4 2, .sym 0 5 0, .sym 0 5 1, .sym 0 5 2]⟩)], bx := [], ks := [(0, 0, .num 0 (.v 0) 2), (0, 1, .num 1 (.v 1) 2), (0, 2, .num 2 (.v 2) 2), (0, 3, .num 3 (.v 3) 2), (0, 4, .num 4 (.v 4) 2), (0, 5, .num 5 (.v 5) 2), (0, 6, .num 6 (.v 6) 2), (0, 7, .num 7 (.v 7) 2), (0, 8, .num 8 (.v 8) 2)], n := 115, ob := 2 }
def predicateMakes2_e0 : RE := .mul (.sub (.v 2) (.v 0)) (.sub (.v 5) (.v 1))
def predicateMakes2_e1 : RE := .mul (.sub (.v 3) (.v 1)) (.sub (.v 4) (.v 0))
def predicateMakes2_e2 : RE := .sub predicateMakes2_e0 predicateMakes2_e1
def predicateMakes2_e3 : RE := .mul (.z 2) predicateMakes2_e2
def predicateMakes2_e4 : RE := .mul (.sub (.v 2) (.v 0)) (.sub (.v 2) (.v 0))
def predicateMakes2_e5 : RE := .mul (.sub (.v 3) (.v 1)) (.sub (.v 3) (.v 1))
def predicateMakes2_e6 : RE := .add predicateMakes2_e4 predicateMakes2_e5
def predicateMakes2_e7 : RE := .mul predicateMakes2_e6 (.sub (.v 5) (.v 1))
def predicateMakes2_e8 : RE := .mul (.sub (.v 4) (.v 0)) (.sub (.v 4) (.v 0))
def predicateMakes2_e9 : RE := .mul (.sub (.v 5) (.v 1)) (.sub (.v 5) (.v 1))
def predicateMakes2_e10 : RE := .add predicateMakes2_e8 predicateMakes2_e9
def predicateMakes2_e11 : RE := .mul predicateMakes2_e10 (.sub (.v 3) (.v 1))
def predicateMakes2_e12 : RE := .sub predicateMakes2_e7 predicateMakes2_e11
def predicateMakes2_e13 : RE := .div (.z 1) predicateMakes2_e3
def predicateMakes2_e14 : RE := .mul predicateMakes2_e12 predicateMakes2_e13
def predicateMakes2_e15 : RE := .add (.v 0) predicateMakes2_e14
def predicateMakes2_e16 : RE := .sub (.v 0) predicateMakes2_e15
def predicateMakes2_e17 : RE := .mul predicateMakes2_e16 predicateMakes2_e16
def predicateMakes2_e18 : RE := .mul predicateMakes2_e10 (.sub (.v 2) (.v 0))
def predicateMakes2_e19 : RE := .mul predicateMakes2_e6 (.sub (.v 4) (.v 0))
def predicateMakes2_e20 : RE := .sub predicateMakes2_e18 predicateMakes2_e19
def predicateMakes2_e21 : RE := .mul predicateMakes2_e20 predicateMakes2_e13
def predicateMakes2_e22 : RE := .add (.v 1) predicateMakes2_e21
def predicateMakes2_e23 : RE := .sub (.v 1) predicateMakes2_e22
def predicateMakes2_e24 : RE := .mul predicateMakes2_e23 predicateMakes2_e23
def predicateMakes2_e25 : RE := .add predicateMakes2_e17 predicateMakes2_e24
def predicateMakes2_e26 : RE := .sub (.v 2) predicateMakes2_e15
def predicateMakes2_e27 : RE := .mul predicateMakes2_e26 predicateMakes2_e26
def predicateMakes2_e28 : RE := .sub (.v 3) predicateMakes2_e22
def predicateMakes2_e29 : RE := .mul predicateMakes2_e28 predicateMakes2_e28
def predicateMakes2_e30 : RE := .add predicateMakes2_e27 predicateMakes2_e29
def predicateMakes2_e31 : RE := .sub predicateMakes2_e25 predicateMakes2_e30
def predicateMakes2_A0 : Orc := { cmp := [(predicateMakes2_e3, (.z 0), -1), (predicateMakes2_e31, (.z 0), 0)] }
theorem predicateMakes2_p0  : (stepN Tryz.prog (ctrB predicateMakes2_A0 (yesN 9)) 20 2 (restN 2 (restN 4 predicateMakes_c)) predicateMakes_k1.vn 79).map (digest predicateMakes_k2 100) = some predicateMakes_k2.want := by kernel_rfl
def predicateMakes2_A1 : Orc := { cmp := [(predicateMakes2_e3, (.z 0), 0)] }
theorem predicateMakes2_p1  : (stepN Tryz.prog (ctrB predicateMakes2_A1 (yesN 9)) 20 2 (restN 2 (restN 4 predicateMakes_c)) predicateMakes_k1.vn 79).map (digest predicateMakes_k2 100) = some predicateMakes_k2.want := by kernel_rfl
def predicateMakes2_A2 : Orc := { cmp := [(predicateMakes2_e3, (.z 0), 1), (predicateMakes2_e31, (.z 0), 0)] }
theorem predicateMakes2_p2  : (stepN Tryz.prog (ctrB predicateMakes2_A2 (yesN 9)) 20 2 (restN 2 (restN 4 predicateMakes_c)) predicateMakes_k1.vn 79).map (digest predicateMakes_k2 100) = some predicateMakes_k2.want := by kernel_rfl
theorem predicateMakes2_dec (ρ : Nat → Rat)  : ∃ (ρ' : Nat → Rat) (A : Orc), (∀ k, k < 9 → ρ' k = ρ k) ∧ A.OK ρ' ∧ (stepN Tryz.prog (ctrB A (yesN 9)) 20 2 (restN 2 (restN 4 predicateMakes_c)) predicateMakes_k1.vn 79).map (digest predicateMakes_k2 100) = some predicateMakes_k2.want := by
  rcases cmpR_bound (RE.eval ρ predicateMakes2_e3) (RE.eval ρ (.z 0)) with h0 | h0 | h0
  · skip
    have h1 := cmpR_zero.2 (eqC (x := predicateMakes2_e31) (y := (.z 0)) (nz := [predicateMakes2_e3, (.z 2)]) (varsM ρ) (nz_cons (ne_of_cmp h0 rfl) (nz_cons (two_ne _) nz_nil)) (by kernel_rfl))
    exact ⟨ρ, predicateMakes2_A0, (fun _ _ => rfl), (orc_cmp h0 (orc_cmp h1 orc_nil)), predicateMakes2_p0⟩
  · skip
    exact ⟨ρ, predicateMakes2_A1, (fun _ _ => rfl), (orc_cmp h0 orc_nil), predicateMakes2_p1⟩
  · skip
    have h1 := cmpR_zero.2 (eqC (x := predicateMakes2_e31) (y := (.z 0)) (nz := [predicateMakes2_e3, (.z 2)]) (varsM ρ) (nz_cons (ne_of_cmp h0 rfl) (nz_cons (two_ne _) nz_nil)) (by kernel_rfl))
    exact ⟨ρ, predicateMakes2_A2, (fun _ _ => rfl), (orc_cmp h0 (orc_cmp h1 orc_nil)), predicateMakes2_p2⟩

theorem predicateMakes_q2 : PieceOK 9 (restN 2 (restN 4 predicateMakes_c)) predicateMakes_k1.vn 79 2 predicateMakes_k2 100 := fun ρ => predicateMakes2_dec ρ
def predicateMakes3_e0 : RE := .add (.sub (.v 4) (.v 0)) (.mul (.v 8) (.sub (.v 5) (.v 1)))
def predicateMakes3_e1 : RE := .mul (.z 2) predicateMakes3_e0
def predicateMakes3_e2 : RE := .div predicateMakes3_e1 (.add (.z 1) (.mul (.v 8) (.v 8)))
def predicateMakes3_e3 : RE := .add (.v 0) predicateMakes3_e2
def predicateMakes3_e4 : RE := .sub (.v 0) predicateMakes3_e3
def predicateMakes3_e5 : RE := .add (.sub (.v 4) (.v 0)) (.mul (.v 7) (.sub (.v 5) (.v 1)))
def predicateMakes3_e6 : RE := .mul (.z 2) predicateMakes3_e5
def predicateMakes3_e7 : RE := .div predicateMakes3_e6 (.add (.z 1) (.mul (.v 7) (.v 7)))
def predicateMakes3_e8 : RE := .add (.v 0) predicateMakes3_e7
def predicateMakes3_e9 : RE := .sub predicateMakes3_e8 predicateMakes3_e3
def predicateMakes3_e10 : RE := .mul predicateMakes3_e4 predicateMakes3_e9
def predicateMakes3_e11 : RE := .mul (.v 8) predicateMakes3_e2
def predicateMakes3_e12 : RE := .add (.v 1) predicateMakes3_e11
def predicateMakes3_e13 : RE := .sub (.v 1) predicateMakes3_e12
def predicateMakes3_e14 : RE := .mul (.v 7) predicateMakes3_e7
def predicateMakes3_e15 : RE := .add (.v 1) predicateMakes3_e14
def predicateMakes3_e16 : RE := .sub predicateMakes3_e15 predicateMakes3_e12
def predicateMakes3_e17 : RE := .mul predicateMakes3_e13 predicateMakes3_e16
def predicateMakes3_e18 : RE := .add predicateMakes3_e10 predicateMakes3_e17
def predicateMakes3_e19 : RE := .add (.sub (.v 4) (.v 0)) (.mul (.v 6) (.sub (.v 5) (.v 1)))
def predicateMakes3_e20 : RE := .mul (.z 2) predicateMakes3_e19
def predicateMakes3_e21 : RE := .div predicateMakes3_e20 (.add (.z 1) (.mul (.v 6) (.v 6)))
def predicateMakes3_e22 : RE := .add (.v 0) predicateMakes3_e21
def predicateMakes3_e23 : RE := .sub (.v 0) predicateMakes3_e22
def predicateMakes3_e24 : RE := .mul (.v 6) predicateMakes3_e21
def predicateMakes3_e25 : RE := .add (.v 1) predicateMakes3_e24
def predicateMakes3_e26 : RE := .sub predicateMakes3_e15 predicateMakes3_e25
def predicateMakes3_e27 : RE := .mul predicateMakes3_e23 predicateMakes3_e26
def predicateMakes3_e28 : RE := .sub (.v 1) predicateMakes3_e25
def predicateMakes3_e29 : RE := .sub predicateMakes3_e8 predicateMakes3_e22
def predicateMakes3_e30 : RE := .mul predicateMakes3_e28 predicateMakes3_e29
def predicateMakes3_e31 : RE := .sub predicateMakes3_e27 predicateMakes3_e30
def predicateMakes3_e32 : RE := .mul predicateMakes3_e18 predicateMakes3_e31
def predicateMakes3_e33 : RE := .mul predicateMakes3_e23 predicateMakes3_e29
def predicateMakes3_e34 : RE := .mul predicateMakes3_e28 predicateMakes3_e26
def predicateMakes3_e35 : RE := .add predicateMakes3_e33 predicateMakes3_e34
def predicateMakes3_e36 : RE := .mul predicateMakes3_e4 predicateMakes3_e16
def predicateMakes3_e37 : RE := .mul predicateMakes3_e13 predicateMakes3_e9
def predicateMakes3_e38 : RE := .sub predicateMakes3_e36 predicateMakes3_e37
def predicateMakes3_e39 : RE := .mul predicateMakes3_e35 predicateMakes3_e38
def predicateMakes3_e40 : RE := .sub predicateMakes3_e32 predicateMakes3_e39
def predicateMakes3_A0 : Orc := { cmp := [(predicateMakes3_e40, (.z 0), 0)], ne := [((.add (.z 1) (.mul (.v 6) (.v 6))), (.z 0)), ((.add (.z 1) (.mul (.v 7) (.v 7))), (.z 0)), ((.add (.z 1) (.mul (.v 8) (.v 8))), (.z 0))] }
theorem predicateMakes3_p0  : (acode Tryz.prog (ctrB predicateMakes3_A0 (yesN 9)) 20 (restN 2 (restN 2 (restN 4 predicateMakes_c))) predicateMakes_k2.vn 100).map (fin Tryz.f14) = yesF := by kernel_rfl
theorem predicateMakes3_dec (ρ : Nat → Rat)  : ∃ (ρ' : Nat → Rat) (A : Orc), (∀ k, k < 9 → ρ' k = ρ k) ∧ A.OK ρ' ∧ (acode Tryz.prog (ctrB A (yesN 9)) 20 (restN 2 (restN 2 (restN 4 predicateMakes_c))) predicateMakes_k2.vn 100).map (fin Tryz.f14) = yesF := by
  have h0 := normC (b := (.add (.z 1) (.mul (.v 6) (.v 6)))) (x := (.z 1)) (y := (.z 0)) (f := (.v 6)) (nz := [(.z 2)]) (varsM ρ) (nz_cons (two_ne _) nz_nil) (by kernel_rfl) (one_ne _)
  have h1 := normC (b := (.add (.z 1) (.mul (.v 7) (.v 7)))) (x := (.z 1)) (y := (.z 0)) (f := (.v 7)) (nz := [(.add (.z 1) (.mul (.v 6) (.v 6))), (.z 2)]) (varsM ρ) (nz_cons h0 (nz_cons (two_ne _) nz_nil)) (by kernel_rfl) (one_ne _)
  have h2 := normC (b := (.add (.z 1) (.mul (.v 8) (.v 8)))) (x := (.z 1)) (y := (.z 0)) (f := (.v 8)) (nz := [(.add (.z 1) (.mul (.v 6) (.v 6))), (.add (.z 1) (.mul (.v 7) (.v 7))), (.z 2)]) (varsM ρ) (nz_cons h0 (nz_cons h1 (nz_cons (two_ne _) nz_nil))) (by kernel_rfl) (one_ne _)
  have h3 := cmpR_zero.2 (eqC (x := predicateMakes3_e40) (y := (.z 0)) (nz := [(.add (.z 1) (.mul (.v 6) (.v 6))), (.add (.z 1) (.mul (.v 7) (.v 7))), (.add (.z 1) (.mul (.v 8) (.v 8))), (.z 2)]) (varsM ρ) (nz_cons h0 (nz_cons h1 (nz_cons h2 (nz_cons (two_ne _) nz_nil)))) (by kernel_rfl))
  exact ⟨ρ, predicateMakes3_A0, (fun _ _ => rfl), (orc_cmp h3 (orc_ne h0 (orc_ne h1 (orc_ne h2 orc_nil)))), predicateMakes3_p0⟩

theorem predicateMakes_q3 : LastOK 9 Tryz.f14 (restN 2 (restN 2 (restN 4 predicateMakes_c))) predicateMakes_k2.vn 100 := fun ρ => predicateMakes3_dec ρ
theorem cells68_rel {π : Par} (h : ∀ k, k < 9 → NumR π.w (π.F k)) : rels (env0 π) cells68 (π.F 6 ++ (π.F 7 ++ π.F 8)) := by
  have one : ∀ n, n < 9 → rels (env0 π) [.sym 0 n 0, .sym 0 n 1, .sym 0 n 2] (π.F n) := by
    intro n hn
    obtain ⟨g, a, m, c, xs, b, l, e, ys, h1, -⟩ := h n hn
    rw [h1]
    refine F2.cons ?_ (F2.cons ?_ (F2.cons ?_ F2.nil)) <;> exact ⟨⟨cells3 g a m c b l e, by show (if 0 = 0 then some (π.F n) else none) = _; rw [if_pos rfl, h1], rfl⟩, rfl⟩
  exact (one 6 (by omega)).append ((one 7 (by omega)).append (one 8 (by omega)))

theorem predicateMakes_walk {W : World} (T : Tb W) {F : Nat → List Value} (hF : ∀ k, k < 9 → NumR W (F k)) :
    Calls Tryz.prog 14 [Value.agg (join9 F 6).toArray, Value.agg (F 6 ++ (F 7 ++ F 8)).toArray].toArray W fun e w' => e = .returned (.bool true) ∧ W.grownBy w' none := by
  refine lawB (c := predicateMakes_c) (N := 9) (args := predicateMakes_args) Tryz.func14 (by kernel_rfl) (by kernel_rfl) T hF (fun π h1 h2 => F2.cons ⟨_, rfl, by rw [← h2]; exact cells9_rel (fun k hk => by rw [h1, h2]; exact hF k (by omega))⟩ (F2.cons ⟨_, rfl, by rw [← h2]; exact cells68_rel (by rw [h1, h2]; exact hF)⟩ F2.nil)) (fun k hk => ?_) fun hs ρ E a w Q h0 f0 hQ => ?_
  · match k, hk with
    | 0, _ => exact predicateMakes_no0
    | 1, _ => exact predicateMakes_no1
    | 2, _ => exact predicateMakes_no2
    | 3, _ => exact predicateMakes_no3
    | 4, _ => exact predicateMakes_no4
    | 5, _ => exact predicateMakes_no5
    | 6, _ => exact predicateMakes_no6
    | 7, _ => exact predicateMakes_no7
    | 8, _ => exact predicateMakes_no8
  refine pieceB T hs predicateMakes_q0 (VB_sy (by omega) _ _) (by kernel_rfl) h0 f0 fun E1 a1 w1 h1 f1 => ?_
  refine pieceB T hs predicateMakes_q1 (SyOK.of_keep (by kernel_rfl)) (by kernel_rfl) h1 f1 fun E2 a2 w2 h2 f2 => ?_
  refine pieceB T hs predicateMakes_q2 (SyOK.of_keep (by kernel_rfl)) (by kernel_rfl) h2 f2 fun E3 a3 w3 h3 f3 => ?_
  exact lastB T hs predicateMakes_q3 (SyOK.of_keep (by kernel_rfl)) h3 f3 hQ
end Go.Proofs.YtgbfjneoieadmaaGreatDoor
