/-
  CasesPredicateSymmetric, in one text.
-/
import Derived.Test.YtgbfjneoieadmaaGreatDoorMrQ4

set_option linter.unusedVariables false
set_option linter.unusedSimpArgs false
namespace Go.Proofs.YtgbfjneoieadmaaGreatDoor
open Go.RowKit Nm Go.Abs Go.Pn
open Go


noncomputable def predicateSymmetric_args : List AV := [.val true (cells9 8)]
noncomputable def predicateSymmetric_c : Code := bodyOf Tryz.f13
def predicateSymmetricN_e0 : RE := .mul (.sub (.z 1) (.z 0)) (.sub (.z 2) (.z 0))
def predicateSymmetricN_e1 : RE := .sub predicateSymmetricN_e0 predicateSymmetricN_e0
def predicateSymmetricN_e2 : RE := .mul (.sub (.z 0) (.z 0)) (.sub (.z 1) (.z 0))
def predicateSymmetricN_e3 : RE := .mul (.sub (.z 1) (.z 0)) (.sub (.z 1) (.z 0))
def predicateSymmetricN_e4 : RE := .sub predicateSymmetricN_e2 predicateSymmetricN_e3
def predicateSymmetricN_A0 : Orc := { cmp := [(predicateSymmetricN_e1, (.z 0), 0), (predicateSymmetricN_e4, (.z 0), -1)] }
theorem predicateSymmetricN_ok (ρ : Nat → Rat) : Orc.OK ρ predicateSymmetricN_A0 := by
  have h0 := cmpR_zero.2 (eqC (x := predicateSymmetricN_e1) (y := (.z 0)) (nz := [(.z 2)]) (varsA ρ) (nz_cons (two_ne _) nz_nil) (by kernel_rfl))
  have h1 := const_neg (x := predicateSymmetricN_e4) (n := -1) (eqC (x := predicateSymmetricN_e4) (y := .z (-1)) (nz := [(.z 2)]) (varsA ρ) (nz_cons (two_ne _) nz_nil) (by kernel_rfl)) (by decide)
  exact (orc_cmp h0 (orc_cmp h1 orc_nil))

theorem predicateSymmetric_no0 : NoOK 8 predicateSymmetric_args Tryz.f13 predicateSymmetric_c 0 := ⟨predicateSymmetricN_A0, predicateSymmetricN_ok _, by kernel_rfl⟩
theorem predicateSymmetric_no1 : NoOK 8 predicateSymmetric_args Tryz.f13 predicateSymmetric_c 1 := ⟨predicateSymmetricN_A0, predicateSymmetricN_ok _, by kernel_rfl⟩
theorem predicateSymmetric_no2 : NoOK 8 predicateSymmetric_args Tryz.f13 predicateSymmetric_c 2 := ⟨predicateSymmetricN_A0, predicateSymmetricN_ok _, by kernel_rfl⟩
theorem predicateSymmetric_no3 : NoOK 8 predicateSymmetric_args Tryz.f13 predicateSymmetric_c 3 := ⟨predicateSymmetricN_A0, predicateSymmetricN_ok _, by kernel_rfl⟩
theorem predicateSymmetric_no4 : NoOK 8 predicateSymmetric_args Tryz.f13 predicateSymmetric_c 4 := ⟨predicateSymmetricN_A0, predicateSymmetricN_ok _, by kernel_rfl⟩
theorem predicateSymmetric_no5 : NoOK 8 predicateSymmetric_args Tryz.f13 predicateSymmetric_c 5 := ⟨predicateSymmetricN_A0, predicateSymmetricN_ok _, by kernel_rfl⟩
theorem predicateSymmetric_no6 : NoOK 8 predicateSymmetric_args Tryz.f13 predicateSymmetric_c 6 := ⟨predicateSymmetricN_A0, predicateSymmetricN_ok _, by kernel_rfl⟩
theorem predicateSymmetric_no7 : NoOK 8 predicateSymmetric_args Tryz.f13 predicateSymmetric_c 7 := ⟨predicateSymmetricN_A0, predicateSymmetricN_ok _, by kernel_rfl⟩
noncomputable def predicateSymmetric_k0 : Keep KQ := { sl := [(1, .val false [.ptr 2 0]), (3, .val false [.sli 2 0 4 4])], bl := [(2, ⟨69, cells9 8⟩)], bx := [], ks := [(0, 0, .num 0 (.v 0) 2), (0, 1, .num 1 (.v 1) 2), (0, 2, .num 2 (.v 2) 2), (0, 3, .num 3 (.v 3) 2), (0, 4, .num 4 (.v 4) 2), (0, 5, .num 5 (.v 5) 2), (0, 6, .num 6 (.v 6) 2), (0, 7, .num 7 (.v 7) 2)], n := 86, ob := 2 }
def predicateSymmetric0_e0 : RE := .mul (.sub (.v 2) (.v 0)) (.sub (.v 5) (.v 1))
def predicateSymmetric0_e1 : RE := .mul (.sub (.v 3) (.v 1)) (.sub (.v 4) (.v 0))
def predicateSymmetric0_e2 : RE := .sub predicateSymmetric0_e0 predicateSymmetric0_e1
def predicateSymmetric0_e3 : RE := .mul (.sub (.v 0) (.v 2)) (.sub (.v 5) (.v 3))
def predicateSymmetric0_e4 : RE := .mul (.sub (.v 1) (.v 3)) (.sub (.v 4) (.v 2))
def predicateSymmetric0_e5 : RE := .sub predicateSymmetric0_e3 predicateSymmetric0_e4
def predicateSymmetric0_e6 : RE := .mul (.sub (.v 1) (.v 5)) (.sub (.v 2) (.v 4))
def predicateSymmetric0_e7 : RE := .mul (.sub (.v 0) (.v 4)) (.sub (.v 3) (.v 5))
def predicateSymmetric0_e8 : RE := .sub predicateSymmetric0_e6 predicateSymmetric0_e7
def predicateSymmetric0_e9 : RE := .sub predicateSymmetric0_e4 predicateSymmetric0_e3
def predicateSymmetric0_A0 : Orc := { cmp := [(predicateSymmetric0_e2, (.z 0), -1), (predicateSymmetric0_e5, (.z 0), 1), (predicateSymmetric0_e8, (.z 0), 1), (predicateSymmetric0_e9, (.z 0), -1)] }
theorem predicateSymmetric0_p0  : (stepN Tryz.prog (ctrB predicateSymmetric0_A0 (yesN 8)) 20 4 predicateSymmetric_c (VB predicateSymmetric_args 8 Tryz.f13) 2).map (digest predicateSymmetric_k0 24) = some predicateSymmetric_k0.want := by kernel_rfl
def predicateSymmetric0_A1 : Orc := { cmp := [(predicateSymmetric0_e2, (.z 0), 0), (predicateSymmetric0_e5, (.z 0), 0), (predicateSymmetric0_e8, (.z 0), 0), (predicateSymmetric0_e9, (.z 0), 0)] }
theorem predicateSymmetric0_p1  : (stepN Tryz.prog (ctrB predicateSymmetric0_A1 (yesN 8)) 20 4 predicateSymmetric_c (VB predicateSymmetric_args 8 Tryz.f13) 2).map (digest predicateSymmetric_k0 24) = some predicateSymmetric_k0.want := by kernel_rfl
def predicateSymmetric0_A2 : Orc := { cmp := [(predicateSymmetric0_e2, (.z 0), 1), (predicateSymmetric0_e5, (.z 0), -1), (predicateSymmetric0_e8, (.z 0), -1), (predicateSymmetric0_e9, (.z 0), 1)] }
theorem predicateSymmetric0_p2  : (stepN Tryz.prog (ctrB predicateSymmetric0_A2 (yesN 8)) 20 4 predicateSymmetric_c (VB predicateSymmetric_args 8 Tryz.f13) 2).map (digest predicateSymmetric_k0 24) = some predicateSymmetric_k0.want := by kernel_rfl
theorem predicateSymmetric0_dec (ρ : Nat → Rat)  : ∃ (ρ' : Nat → Rat) (A : Orc), (∀ k, k < 9 → ρ' k = ρ k) ∧ A.OK ρ' ∧ (stepN Tryz.prog (ctrB A (yesN 8)) 20 4 predicateSymmetric_c (VB predicateSymmetric_args 8 Tryz.f13) 2).map (digest predicateSymmetric_k0 24) = some predicateSymmetric_k0.want := by
  rcases cmpR_bound (RE.eval ρ predicateSymmetric0_e2) (RE.eval ρ (.z 0)) with h0 | h0 | h0
  · skip
    have h1 := cmpR_unlike (likeC (x := predicateSymmetric0_e5) (y := (.z 0)) (k := (.z (-1))) (p := predicateSymmetric0_e2) (q := (.z 0)) (nz := [predicateSymmetric0_e2, (.z 2)]) (varsA ρ) (nz_cons (ne_of_cmp h0 rfl) (nz_cons (two_ne _) nz_nil)) (by kernel_rfl)) (show ((-1 : Int) : Rat) < (0 : Rat) from by decide +kernel) h0
    have h2 := cmpR_unlike (likeC (x := predicateSymmetric0_e8) (y := (.z 0)) (k := (.z (-1))) (p := predicateSymmetric0_e2) (q := (.z 0)) (nz := [predicateSymmetric0_e2, predicateSymmetric0_e5, (.z 2)]) (varsA ρ) (nz_cons (ne_of_cmp h0 rfl) (nz_cons (ne_of_cmp h1 rfl) (nz_cons (two_ne _) nz_nil))) (by kernel_rfl)) (show ((-1 : Int) : Rat) < (0 : Rat) from by decide +kernel) h0
    have h3 := cmpR_like (likeC (x := predicateSymmetric0_e9) (y := (.z 0)) (k := (.z 1)) (p := predicateSymmetric0_e2) (q := (.z 0)) (nz := [predicateSymmetric0_e2, predicateSymmetric0_e5, predicateSymmetric0_e8, (.z 2)]) (varsA ρ) (nz_cons (ne_of_cmp h0 rfl) (nz_cons (ne_of_cmp h1 rfl) (nz_cons (ne_of_cmp h2 rfl) (nz_cons (two_ne _) nz_nil)))) (by kernel_rfl)) (show (0 : Rat) < ((1 : Int) : Rat) from by decide +kernel) h0
    exact ⟨ρ, predicateSymmetric0_A0, (fun _ _ => rfl), (orc_cmp h0 (orc_cmp h1 (orc_cmp h2 (orc_cmp h3 orc_nil)))), predicateSymmetric0_p0⟩
  · skip
    have h1 := cmpR_unlike (likeC (x := predicateSymmetric0_e5) (y := (.z 0)) (k := (.z (-1))) (p := predicateSymmetric0_e2) (q := (.z 0)) (nz := [(.z 2)]) (varsA ρ) (nz_cons (two_ne _) nz_nil) (by kernel_rfl)) (show ((-1 : Int) : Rat) < (0 : Rat) from by decide +kernel) h0
    have h2 := cmpR_unlike (likeC (x := predicateSymmetric0_e8) (y := (.z 0)) (k := (.z (-1))) (p := predicateSymmetric0_e2) (q := (.z 0)) (nz := [(.z 2)]) (varsA ρ) (nz_cons (two_ne _) nz_nil) (by kernel_rfl)) (show ((-1 : Int) : Rat) < (0 : Rat) from by decide +kernel) h0
    have h3 := cmpR_like (likeC (x := predicateSymmetric0_e9) (y := (.z 0)) (k := (.z 1)) (p := predicateSymmetric0_e2) (q := (.z 0)) (nz := [(.z 2)]) (varsA ρ) (nz_cons (two_ne _) nz_nil) (by kernel_rfl)) (show (0 : Rat) < ((1 : Int) : Rat) from by decide +kernel) h0
    exact ⟨ρ, predicateSymmetric0_A1, (fun _ _ => rfl), (orc_cmp h0 (orc_cmp h1 (orc_cmp h2 (orc_cmp h3 orc_nil)))), predicateSymmetric0_p1⟩
  · skip
    have h1 := cmpR_unlike (likeC (x := predicateSymmetric0_e5) (y := (.z 0)) (k := (.z (-1))) (p := predicateSymmetric0_e2) (q := (.z 0)) (nz := [predicateSymmetric0_e2, (.z 2)]) (varsA ρ) (nz_cons (ne_of_cmp h0 rfl) (nz_cons (two_ne _) nz_nil)) (by kernel_rfl)) (show ((-1 : Int) : Rat) < (0 : Rat) from by decide +kernel) h0
    have h2 := cmpR_unlike (likeC (x := predicateSymmetric0_e8) (y := (.z 0)) (k := (.z (-1))) (p := predicateSymmetric0_e2) (q := (.z 0)) (nz := [predicateSymmetric0_e2, predicateSymmetric0_e5, (.z 2)]) (varsA ρ) (nz_cons (ne_of_cmp h0 rfl) (nz_cons (ne_of_cmp h1 rfl) (nz_cons (two_ne _) nz_nil))) (by kernel_rfl)) (show ((-1 : Int) : Rat) < (0 : Rat) from by decide +kernel) h0
    have h3 := cmpR_like (likeC (x := predicateSymmetric0_e9) (y := (.z 0)) (k := (.z 1)) (p := predicateSymmetric0_e2) (q := (.z 0)) (nz := [predicateSymmetric0_e2, predicateSymmetric0_e5, predicateSymmetric0_e8, (.z 2)]) (varsA ρ) (nz_cons (ne_of_cmp h0 rfl) (nz_cons (ne_of_cmp h1 rfl) (nz_cons (ne_of_cmp h2 rfl) (nz_cons (two_ne _) nz_nil)))) (by kernel_rfl)) (show (0 : Rat) < ((1 : Int) : Rat) from by decide +kernel) h0
    exact ⟨ρ, predicateSymmetric0_A2, (fun _ _ => rfl), (orc_cmp h0 (orc_cmp h1 (orc_cmp h2 (orc_cmp h3 orc_nil)))), predicateSymmetric0_p2⟩

theorem predicateSymmetric_q0 : PieceOK 8 predicateSymmetric_c (VB predicateSymmetric_args 8 Tryz.f13) 2 4 predicateSymmetric_k0 24 := fun ρ => predicateSymmetric0_dec ρ
noncomputable def predicateSymmetric_k1 : Keep KQ := { sl := [(1, .val false [.ptr 2 0]), (3, .val false [.sli 2 0 4 4])], bl := [(2, ⟨69, cells9 8⟩)], bx := [], ks := [(0, 0, .num 0 (.v 0) 2), (0, 1, .num 1 (.v 1) 2), (0, 2, .num 2 (.v 2) 2), (0, 3, .num 3 (.v 3) 2), (0, 4, .num 4 (.v 4) 2), (0, 5, .num 5 (.v 5) 2), (0, 6, .num 6 (.v 6) 2), (0, 7, .num 7 (.v 7) 2)], n := 86, ob := 2 }
def predicateSymmetric1_e0 : RE := .mul (.sub (.v 2) (.v 0)) (.sub (.v 7) (.v 5))
def predicateSymmetric1_e1 : RE := .mul (.sub (.v 3) (.v 1)) (.sub (.v 6) (.v 4))
def predicateSymmetric1_e2 : RE := .sub predicateSymmetric1_e0 predicateSymmetric1_e1
def predicateSymmetric1_e3 : RE := .mul (.sub (.v 0) (.v 2)) (.sub (.v 7) (.v 5))
def predicateSymmetric1_e4 : RE := .mul (.sub (.v 1) (.v 3)) (.sub (.v 6) (.v 4))
def predicateSymmetric1_e5 : RE := .sub predicateSymmetric1_e3 predicateSymmetric1_e4
def predicateSymmetric1_e6 : RE := .sub predicateSymmetric1_e1 predicateSymmetric1_e0
def predicateSymmetric1_A0 : Orc := { cmp := [(predicateSymmetric1_e2, (.z 0), -1), (predicateSymmetric1_e5, (.z 0), 1), (predicateSymmetric1_e6, (.z 0), 1)] }
theorem predicateSymmetric1_p0  : (stepN Tryz.prog (ctrB predicateSymmetric1_A0 (yesN 8)) 20 1 (restN 4 predicateSymmetric_c) predicateSymmetric_k0.vn 24).map (digest predicateSymmetric_k1 36) = some predicateSymmetric_k1.want := by kernel_rfl
def predicateSymmetric1_A1 : Orc := { cmp := [(predicateSymmetric1_e2, (.z 0), 0), (predicateSymmetric1_e5, (.z 0), 0), (predicateSymmetric1_e6, (.z 0), 0)] }
theorem predicateSymmetric1_p1  : (stepN Tryz.prog (ctrB predicateSymmetric1_A1 (yesN 8)) 20 1 (restN 4 predicateSymmetric_c) predicateSymmetric_k0.vn 24).map (digest predicateSymmetric_k1 36) = some predicateSymmetric_k1.want := by kernel_rfl
def predicateSymmetric1_A2 : Orc := { cmp := [(predicateSymmetric1_e2, (.z 0), 1), (predicateSymmetric1_e5, (.z 0), -1), (predicateSymmetric1_e6, (.z 0), -1)] }
theorem predicateSymmetric1_p2  : (stepN Tryz.prog (ctrB predicateSymmetric1_A2 (yesN 8)) 20 1 (restN 4 predicateSymmetric_c) predicateSymmetric_k0.vn 24).map (digest predicateSymmetric_k1 36) = some predicateSymmetric_k1.want := by kernel_rfl
theorem predicateSymmetric1_dec (ρ : Nat → Rat)  : ∃ (ρ' : Nat → Rat) (A : Orc), (∀ k, k < 9 → ρ' k = ρ k) ∧ A.OK ρ' ∧ (stepN Tryz.prog (ctrB A (yesN 8)) 20 1 (restN 4 predicateSymmetric_c) predicateSymmetric_k0.vn 24).map (digest predicateSymmetric_k1 36) = some predicateSymmetric_k1.want := by
  rcases cmpR_bound (RE.eval ρ predicateSymmetric1_e2) (RE.eval ρ (.z 0)) with h0 | h0 | h0
  · skip
    have h1 := cmpR_unlike (likeC (x := predicateSymmetric1_e5) (y := (.z 0)) (k := (.z (-1))) (p := predicateSymmetric1_e2) (q := (.z 0)) (nz := [predicateSymmetric1_e2, (.z 2)]) (varsA ρ) (nz_cons (ne_of_cmp h0 rfl) (nz_cons (two_ne _) nz_nil)) (by kernel_rfl)) (show ((-1 : Int) : Rat) < (0 : Rat) from by decide +kernel) h0
    have h2 := cmpR_unlike (likeC (x := predicateSymmetric1_e6) (y := (.z 0)) (k := (.z (-1))) (p := predicateSymmetric1_e2) (q := (.z 0)) (nz := [predicateSymmetric1_e2, predicateSymmetric1_e5, (.z 2)]) (varsA ρ) (nz_cons (ne_of_cmp h0 rfl) (nz_cons (ne_of_cmp h1 rfl) (nz_cons (two_ne _) nz_nil))) (by kernel_rfl)) (show ((-1 : Int) : Rat) < (0 : Rat) from by decide +kernel) h0
    exact ⟨ρ, predicateSymmetric1_A0, (fun _ _ => rfl), (orc_cmp h0 (orc_cmp h1 (orc_cmp h2 orc_nil))), predicateSymmetric1_p0⟩
  · skip
    have h1 := cmpR_unlike (likeC (x := predicateSymmetric1_e5) (y := (.z 0)) (k := (.z (-1))) (p := predicateSymmetric1_e2) (q := (.z 0)) (nz := [(.z 2)]) (varsA ρ) (nz_cons (two_ne _) nz_nil) (by kernel_rfl)) (show ((-1 : Int) : Rat) < (0 : Rat) from by decide +kernel) h0
    have h2 := cmpR_unlike (likeC (x := predicateSymmetric1_e6) (y := (.z 0)) (k := (.z (-1))) (p := predicateSymmetric1_e2) (q := (.z 0)) (nz := [(.z 2)]) (varsA ρ) (nz_cons (two_ne _) nz_nil) (by kernel_rfl)) (show ((-1 : Int) : Rat) < (0 : Rat) from by decide +kernel) h0
    exact ⟨ρ, predicateSymmetric1_A1, (fun _ _ => rfl), (orc_cmp h0 (orc_cmp h1 (orc_cmp h2 orc_nil))), predicateSymmetric1_p1⟩
  · skip
    have h1 := cmpR_unlike (likeC (x := predicateSymmetric1_e5) (y := (.z 0)) (k := (.z (-1))) (p := predicateSymmetric1_e2) (q := (.z 0)) (nz := [predicateSymmetric1_e2, (.z 2)]) (varsA ρ) (nz_cons (ne_of_cmp h0 rfl) (nz_cons (two_ne _) nz_nil)) (by kernel_rfl)) (show ((-1 : Int) : Rat) < (0 : Rat) from by decide +kernel) h0
    have h2 := cmpR_unlike (likeC (x := predicateSymmetric1_e6) (y := (.z 0)) (k := (.z (-1))) (p := predicateSymmetric1_e2) (q := (.z 0)) (nz := [predicateSymmetric1_e2, predicateSymmetric1_e5, (.z 2)]) (varsA ρ) (nz_cons (ne_of_cmp h0 rfl) (nz_cons (ne_of_cmp h1 rfl) (nz_cons (two_ne _) nz_nil))) (by kernel_rfl)) (show ((-1 : Int) : Rat) < (0 : Rat) from by decide +kernel) h0
    exact ⟨ρ, predicateSymmetric1_A2, (fun _ _ => rfl), (orc_cmp h0 (orc_cmp h1 (orc_cmp h2 orc_nil))), predicateSymmetric1_p2⟩

theorem predicateSymmetric_q1 : PieceOK 8 (restN 4 predicateSymmetric_c) predicateSymmetric_k0.vn 24 1 predicateSymmetric_k1 36 := fun ρ => predicateSymmetric1_dec ρ
noncomputable def predicateSymmetric_k2 : Keep KQ := { sl := [(1, .val false [.ptr 2 0]), (3, .val false [.sli 2 0 4 4])], bl := [(2, ⟨69, cells9 8⟩)], bx := [], ks := [(0, 0, .num 0 (.v 0) 2), (0, 1, .num 1 (.v 1) 2), (0, 2, .num 2 (.v 2) 2), (0, 3, .num 3 (.v 3) 2), (0, 4, .num 4 (.v 4) 2), (0, 5, .num 5 (.v 5) 2), (0, 6, .num 6 (.v 6) 2), (0, 7, .num 7 (.v 7) 2)], n := 86, ob := 2 }
def predicateSymmetric2_e0 : RE := .mul (.sub (.v 2) (.v 0)) (.sub (.v 6) (.v 4))
def predicateSymmetric2_e1 : RE := .mul (.sub (.v 3) (.v 1)) (.sub (.v 7) (.v 5))
def predicateSymmetric2_e2 : RE := .add predicateSymmetric2_e0 predicateSymmetric2_e1
def predicateSymmetric2_e3 : RE := .mul (.sub (.v 2) (.v 0)) (.sub (.v 4) (.v 6))
def predicateSymmetric2_e4 : RE := .mul (.sub (.v 3) (.v 1)) (.sub (.v 5) (.v 7))
def predicateSymmetric2_e5 : RE := .add predicateSymmetric2_e3 predicateSymmetric2_e4
def predicateSymmetric2_A0 : Orc := { cmp := [(predicateSymmetric2_e2, (.z 0), -1), (predicateSymmetric2_e5, (.z 0), 1)] }
theorem predicateSymmetric2_p0  : (stepN Tryz.prog (ctrB predicateSymmetric2_A0 (yesN 8)) 20 1 (restN 1 (restN 4 predicateSymmetric_c)) predicateSymmetric_k1.vn 36).map (digest predicateSymmetric_k2 48) = some predicateSymmetric_k2.want := by kernel_rfl
def predicateSymmetric2_A1 : Orc := { cmp := [(predicateSymmetric2_e2, (.z 0), 0), (predicateSymmetric2_e5, (.z 0), 0)] }
theorem predicateSymmetric2_p1  : (stepN Tryz.prog (ctrB predicateSymmetric2_A1 (yesN 8)) 20 1 (restN 1 (restN 4 predicateSymmetric_c)) predicateSymmetric_k1.vn 36).map (digest predicateSymmetric_k2 48) = some predicateSymmetric_k2.want := by kernel_rfl
def predicateSymmetric2_A2 : Orc := { cmp := [(predicateSymmetric2_e2, (.z 0), 1), (predicateSymmetric2_e5, (.z 0), -1)] }
theorem predicateSymmetric2_p2  : (stepN Tryz.prog (ctrB predicateSymmetric2_A2 (yesN 8)) 20 1 (restN 1 (restN 4 predicateSymmetric_c)) predicateSymmetric_k1.vn 36).map (digest predicateSymmetric_k2 48) = some predicateSymmetric_k2.want := by kernel_rfl
theorem predicateSymmetric2_dec (ρ : Nat → Rat)  : ∃ (ρ' : Nat → Rat) (A : Orc), (∀ k, k < 9 → ρ' k = ρ k) ∧ A.OK ρ' ∧ (stepN Tryz.prog (ctrB A (yesN 8)) 20 1 (restN 1 (restN 4 predicateSymmetric_c)) predicateSymmetric_k1.vn 36).map (digest predicateSymmetric_k2 48) = some predicateSymmetric_k2.want := by
  rcases cmpR_bound (RE.eval ρ predicateSymmetric2_e2) (RE.eval ρ (.z 0)) with h0 | h0 | h0
  · skip
    have h1 := cmpR_unlike (likeC (x := predicateSymmetric2_e5) (y := (.z 0)) (k := (.z (-1))) (p := predicateSymmetric2_e2) (q := (.z 0)) (nz := [predicateSymmetric2_e2, (.z 2)]) (varsA ρ) (nz_cons (ne_of_cmp h0 rfl) (nz_cons (two_ne _) nz_nil)) (by kernel_rfl)) (show ((-1 : Int) : Rat) < (0 : Rat) from by decide +kernel) h0
    exact ⟨ρ, predicateSymmetric2_A0, (fun _ _ => rfl), (orc_cmp h0 (orc_cmp h1 orc_nil)), predicateSymmetric2_p0⟩
  · skip
    have h1 := cmpR_unlike (likeC (x := predicateSymmetric2_e5) (y := (.z 0)) (k := (.z (-1))) (p := predicateSymmetric2_e2) (q := (.z 0)) (nz := [(.z 2)]) (varsA ρ) (nz_cons (two_ne _) nz_nil) (by kernel_rfl)) (show ((-1 : Int) : Rat) < (0 : Rat) from by decide +kernel) h0
    exact ⟨ρ, predicateSymmetric2_A1, (fun _ _ => rfl), (orc_cmp h0 (orc_cmp h1 orc_nil)), predicateSymmetric2_p1⟩
  · skip
    have h1 := cmpR_unlike (likeC (x := predicateSymmetric2_e5) (y := (.z 0)) (k := (.z (-1))) (p := predicateSymmetric2_e2) (q := (.z 0)) (nz := [predicateSymmetric2_e2, (.z 2)]) (varsA ρ) (nz_cons (ne_of_cmp h0 rfl) (nz_cons (two_ne _) nz_nil)) (by kernel_rfl)) (show ((-1 : Int) : Rat) < (0 : Rat) from by decide +kernel) h0
    exact ⟨ρ, predicateSymmetric2_A2, (fun _ _ => rfl), (orc_cmp h0 (orc_cmp h1 orc_nil)), predicateSymmetric2_p2⟩

theorem predicateSymmetric_q2 : PieceOK 8 (restN 1 (restN 4 predicateSymmetric_c)) predicateSymmetric_k1.vn 36 1 predicateSymmetric_k2 48 := fun ρ => predicateSymmetric2_dec ρ
noncomputable def predicateSymmetric_k3 : Keep KQ := { sl := [(1, .val false [.ptr 2 0]), (3, .val false [.sli 2 0 4 4])], bl := [(2, ⟨69, cells9 8⟩)], bx := [], ks := [(0, 0, .num 0 (.v 0) 2), (0, 1, .num 1 (.v 1) 2), (0, 2, .num 2 (.v 2) 2), (0, 3, .num 3 (.v 3) 2), (0, 4, .num 4 (.v 4) 2), (0, 5, .num 5 (.v 5) 2), (0, 6, .num 6 (.v 6) 2), (0, 7, .num 7 (.v 7) 2)], n := 86, ob := 2 }
def predicateSymmetric3_e0 : RE := .mul (.sub (.v 2) (.v 0)) (.sub (.v 2) (.v 0))
def predicateSymmetric3_e1 : RE := .mul (.sub (.v 3) (.v 1)) (.sub (.v 3) (.v 1))
def predicateSymmetric3_e2 : RE := .add predicateSymmetric3_e0 predicateSymmetric3_e1
def predicateSymmetric3_e3 : RE := .mul (.sub (.v 6) (.v 4)) (.sub (.v 6) (.v 4))
def predicateSymmetric3_e4 : RE := .mul (.sub (.v 7) (.v 5)) (.sub (.v 7) (.v 5))
def predicateSymmetric3_e5 : RE := .add predicateSymmetric3_e3 predicateSymmetric3_e4
def predicateSymmetric3_e6 : RE := .sub predicateSymmetric3_e2 predicateSymmetric3_e5
def predicateSymmetric3_e7 : RE := .mul (.sub (.v 0) (.v 2)) (.sub (.v 0) (.v 2))
def predicateSymmetric3_e8 : RE := .mul (.sub (.v 1) (.v 3)) (.sub (.v 1) (.v 3))
def predicateSymmetric3_e9 : RE := .add predicateSymmetric3_e7 predicateSymmetric3_e8
def predicateSymmetric3_e10 : RE := .sub predicateSymmetric3_e9 predicateSymmetric3_e5
def predicateSymmetric3_e11 : RE := .sub predicateSymmetric3_e5 predicateSymmetric3_e2
def predicateSymmetric3_A0 : Orc := { cmp := [(predicateSymmetric3_e6, (.z 0), -1), (predicateSymmetric3_e10, (.z 0), -1), (predicateSymmetric3_e11, (.z 0), 1)] }
theorem predicateSymmetric3_p0  : (stepN Tryz.prog (ctrB predicateSymmetric3_A0 (yesN 8)) 20 1 (restN 1 (restN 1 (restN 4 predicateSymmetric_c))) predicateSymmetric_k2.vn 48).map (digest predicateSymmetric_k3 63) = some predicateSymmetric_k3.want := by kernel_rfl
def predicateSymmetric3_A1 : Orc := { cmp := [(predicateSymmetric3_e6, (.z 0), 0), (predicateSymmetric3_e10, (.z 0), 0), (predicateSymmetric3_e11, (.z 0), 0)] }
theorem predicateSymmetric3_p1  : (stepN Tryz.prog (ctrB predicateSymmetric3_A1 (yesN 8)) 20 1 (restN 1 (restN 1 (restN 4 predicateSymmetric_c))) predicateSymmetric_k2.vn 48).map (digest predicateSymmetric_k3 63) = some predicateSymmetric_k3.want := by kernel_rfl
def predicateSymmetric3_A2 : Orc := { cmp := [(predicateSymmetric3_e6, (.z 0), 1), (predicateSymmetric3_e10, (.z 0), 1), (predicateSymmetric3_e11, (.z 0), -1)] }
theorem predicateSymmetric3_p2  : (stepN Tryz.prog (ctrB predicateSymmetric3_A2 (yesN 8)) 20 1 (restN 1 (restN 1 (restN 4 predicateSymmetric_c))) predicateSymmetric_k2.vn 48).map (digest predicateSymmetric_k3 63) = some predicateSymmetric_k3.want := by kernel_rfl
theorem predicateSymmetric3_dec (ρ : Nat → Rat)  : ∃ (ρ' : Nat → Rat) (A : Orc), (∀ k, k < 9 → ρ' k = ρ k) ∧ A.OK ρ' ∧ (stepN Tryz.prog (ctrB A (yesN 8)) 20 1 (restN 1 (restN 1 (restN 4 predicateSymmetric_c))) predicateSymmetric_k2.vn 48).map (digest predicateSymmetric_k3 63) = some predicateSymmetric_k3.want := by
  rcases cmpR_bound (RE.eval ρ predicateSymmetric3_e6) (RE.eval ρ (.z 0)) with h0 | h0 | h0
  · skip
    have h1 := cmpR_like (likeC (x := predicateSymmetric3_e10) (y := (.z 0)) (k := (.z 1)) (p := predicateSymmetric3_e6) (q := (.z 0)) (nz := [predicateSymmetric3_e6, (.z 2)]) (varsA ρ) (nz_cons (ne_of_cmp h0 rfl) (nz_cons (two_ne _) nz_nil)) (by kernel_rfl)) (show (0 : Rat) < ((1 : Int) : Rat) from by decide +kernel) h0
    have h2 := cmpR_unlike (likeC (x := predicateSymmetric3_e11) (y := (.z 0)) (k := (.z (-1))) (p := predicateSymmetric3_e6) (q := (.z 0)) (nz := [predicateSymmetric3_e6, predicateSymmetric3_e10, (.z 2)]) (varsA ρ) (nz_cons (ne_of_cmp h0 rfl) (nz_cons (ne_of_cmp h1 rfl) (nz_cons (two_ne _) nz_nil))) (by kernel_rfl)) (show ((-1 : Int) : Rat) < (0 : Rat) from by decide +kernel) h0
    exact ⟨ρ, predicateSymmetric3_A0, (fun _ _ => rfl), (orc_cmp h0 (orc_cmp h1 (orc_cmp h2 orc_nil))), predicateSymmetric3_p0⟩
  · skip
    have h1 := cmpR_like (likeC (x := predicateSymmetric3_e10) (y := (.z 0)) (k := (.z 1)) (p := predicateSymmetric3_e6) (q := (.z 0)) (nz := [(.z 2)]) (varsA ρ) (nz_cons (two_ne _) nz_nil) (by kernel_rfl)) (show (0 : Rat) < ((1 : Int) : Rat) from by decide +kernel) h0
    have h2 := cmpR_unlike (likeC (x := predicateSymmetric3_e11) (y := (.z 0)) (k := (.z (-1))) (p := predicateSymmetric3_e6) (q := (.z 0)) (nz := [(.z 2)]) (varsA ρ) (nz_cons (two_ne _) nz_nil) (by kernel_rfl)) (show ((-1 : Int) : Rat) < (0 : Rat) from by decide +kernel) h0
    exact ⟨ρ, predicateSymmetric3_A1, (fun _ _ => rfl), (orc_cmp h0 (orc_cmp h1 (orc_cmp h2 orc_nil))), predicateSymmetric3_p1⟩
  · skip
    have h1 := cmpR_like (likeC (x := predicateSymmetric3_e10) (y := (.z 0)) (k := (.z 1)) (p := predicateSymmetric3_e6) (q := (.z 0)) (nz := [predicateSymmetric3_e6, (.z 2)]) (varsA ρ) (nz_cons (ne_of_cmp h0 rfl) (nz_cons (two_ne _) nz_nil)) (by kernel_rfl)) (show (0 : Rat) < ((1 : Int) : Rat) from by decide +kernel) h0
    have h2 := cmpR_unlike (likeC (x := predicateSymmetric3_e11) (y := (.z 0)) (k := (.z (-1))) (p := predicateSymmetric3_e6) (q := (.z 0)) (nz := [predicateSymmetric3_e6, predicateSymmetric3_e10, (.z 2)]) (varsA ρ) (nz_cons (ne_of_cmp h0 rfl) (nz_cons (ne_of_cmp h1 rfl) (nz_cons (two_ne _) nz_nil))) (by kernel_rfl)) (show ((-1 : Int) : Rat) < (0 : Rat) from by decide +kernel) h0
    exact ⟨ρ, predicateSymmetric3_A2, (fun _ _ => rfl), (orc_cmp h0 (orc_cmp h1 (orc_cmp h2 orc_nil))), predicateSymmetric3_p2⟩

theorem predicateSymmetric_q3 : PieceOK 8 (restN 1 (restN 1 (restN 4 predicateSymmetric_c))) predicateSymmetric_k2.vn 48 1 predicateSymmetric_k3 63 := fun ρ => predicateSymmetric3_dec ρ
noncomputable def predicateSymmetric_k4 : Keep KQ := { sl := [(1, .val false [.ptr 2 0]), (3, .val false [.sli 2 0 4 4])], bl := [(2, ⟨69, cells9 8⟩)], bx := [], ks := [(0, 0, .num 0 (.v 0) 2), (0, 1, .num 1 (.v 1) 2), (0, 2, .num 2 (.v 2) 2), (0, 3, .num 3 (.v 3) 2), (0, 4, .num 4 (.v 4) 2), (0, 5, .num 5 (.v 5) 2), (0, 6, .num 6 (.v 6) 2), (0, 7, .num 7 (.v 7) 2)], n := 86, ob := 2 }
def predicateSymmetric4_e0 : RE := .sub (.sub (.v 2) (.v 0)) (.sub (.v 0) (.v 4))
def predicateSymmetric4_e1 : RE := .sub (.sub (.v 4) (.v 0)) (.sub (.v 0) (.v 2))
def predicateSymmetric4_e2 : RE := .sub (.sub (.v 3) (.v 1)) (.sub (.v 1) (.v 5))
def predicateSymmetric4_e3 : RE := .sub (.sub (.v 5) (.v 1)) (.sub (.v 1) (.v 3))
def predicateSymmetric4_A0 : Orc := { cmp := [(predicateSymmetric4_e0, (.z 0), -1), (predicateSymmetric4_e1, (.z 0), -1)] }
theorem predicateSymmetric4_p0  : (stepN Tryz.prog (ctrB predicateSymmetric4_A0 (yesN 8)) 20 1 (restN 1 (restN 1 (restN 1 (restN 4 predicateSymmetric_c)))) predicateSymmetric_k3.vn 63).map (digest predicateSymmetric_k4 72) = some predicateSymmetric_k4.want := by kernel_rfl
def predicateSymmetric4_A1 : Orc := { cmp := [(predicateSymmetric4_e0, (.z 0), 0), (predicateSymmetric4_e2, (.z 0), -1), (predicateSymmetric4_e1, (.z 0), 0), (predicateSymmetric4_e3, (.z 0), -1)] }
theorem predicateSymmetric4_p1  : (stepN Tryz.prog (ctrB predicateSymmetric4_A1 (yesN 8)) 20 1 (restN 1 (restN 1 (restN 1 (restN 4 predicateSymmetric_c)))) predicateSymmetric_k3.vn 63).map (digest predicateSymmetric_k4 72) = some predicateSymmetric_k4.want := by kernel_rfl
def predicateSymmetric4_A2 : Orc := { cmp := [(predicateSymmetric4_e0, (.z 0), 0), (predicateSymmetric4_e2, (.z 0), 0), (predicateSymmetric4_e1, (.z 0), 0), (predicateSymmetric4_e3, (.z 0), 0)] }
theorem predicateSymmetric4_p2  : (stepN Tryz.prog (ctrB predicateSymmetric4_A2 (yesN 8)) 20 1 (restN 1 (restN 1 (restN 1 (restN 4 predicateSymmetric_c)))) predicateSymmetric_k3.vn 63).map (digest predicateSymmetric_k4 72) = some predicateSymmetric_k4.want := by kernel_rfl
def predicateSymmetric4_A3 : Orc := { cmp := [(predicateSymmetric4_e0, (.z 0), 0), (predicateSymmetric4_e2, (.z 0), 1), (predicateSymmetric4_e1, (.z 0), 0), (predicateSymmetric4_e3, (.z 0), 1)] }
theorem predicateSymmetric4_p3  : (stepN Tryz.prog (ctrB predicateSymmetric4_A3 (yesN 8)) 20 1 (restN 1 (restN 1 (restN 1 (restN 4 predicateSymmetric_c)))) predicateSymmetric_k3.vn 63).map (digest predicateSymmetric_k4 72) = some predicateSymmetric_k4.want := by kernel_rfl
def predicateSymmetric4_A4 : Orc := { cmp := [(predicateSymmetric4_e0, (.z 0), 1), (predicateSymmetric4_e1, (.z 0), 1)] }
theorem predicateSymmetric4_p4  : (stepN Tryz.prog (ctrB predicateSymmetric4_A4 (yesN 8)) 20 1 (restN 1 (restN 1 (restN 1 (restN 4 predicateSymmetric_c)))) predicateSymmetric_k3.vn 63).map (digest predicateSymmetric_k4 72) = some predicateSymmetric_k4.want := by kernel_rfl
theorem predicateSymmetric4_dec (ρ : Nat → Rat)  : ∃ (ρ' : Nat → Rat) (A : Orc), (∀ k, k < 9 → ρ' k = ρ k) ∧ A.OK ρ' ∧ (stepN Tryz.prog (ctrB A (yesN 8)) 20 1 (restN 1 (restN 1 (restN 1 (restN 4 predicateSymmetric_c)))) predicateSymmetric_k3.vn 63).map (digest predicateSymmetric_k4 72) = some predicateSymmetric_k4.want := by
  rcases cmpR_bound (RE.eval ρ predicateSymmetric4_e0) (RE.eval ρ (.z 0)) with h0 | h0 | h0
  · skip
    have h1 := cmpR_like (likeC (x := predicateSymmetric4_e1) (y := (.z 0)) (k := (.z 1)) (p := predicateSymmetric4_e0) (q := (.z 0)) (nz := [predicateSymmetric4_e0, (.z 2)]) (varsA ρ) (nz_cons (ne_of_cmp h0 rfl) (nz_cons (two_ne _) nz_nil)) (by kernel_rfl)) (show (0 : Rat) < ((1 : Int) : Rat) from by decide +kernel) h0
    exact ⟨ρ, predicateSymmetric4_A0, (fun _ _ => rfl), (orc_cmp h0 (orc_cmp h1 orc_nil)), predicateSymmetric4_p0⟩
  · skip
    rcases cmpR_bound (RE.eval ρ predicateSymmetric4_e2) (RE.eval ρ (.z 0)) with h1 | h1 | h1
    · skip
      have h2 := cmpR_like (likeC (x := predicateSymmetric4_e1) (y := (.z 0)) (k := (.z 1)) (p := predicateSymmetric4_e0) (q := (.z 0)) (nz := [predicateSymmetric4_e2, (.z 2)]) (varsA ρ) (nz_cons (ne_of_cmp h1 rfl) (nz_cons (two_ne _) nz_nil)) (by kernel_rfl)) (show (0 : Rat) < ((1 : Int) : Rat) from by decide +kernel) h0
      have h3 := cmpR_like (likeC (x := predicateSymmetric4_e3) (y := (.z 0)) (k := (.z 1)) (p := predicateSymmetric4_e2) (q := (.z 0)) (nz := [predicateSymmetric4_e2, (.z 2)]) (varsA ρ) (nz_cons (ne_of_cmp h1 rfl) (nz_cons (two_ne _) nz_nil)) (by kernel_rfl)) (show (0 : Rat) < ((1 : Int) : Rat) from by decide +kernel) h1
      exact ⟨ρ, predicateSymmetric4_A1, (fun _ _ => rfl), (orc_cmp h0 (orc_cmp h1 (orc_cmp h2 (orc_cmp h3 orc_nil)))), predicateSymmetric4_p1⟩
    · skip
      have h2 := cmpR_like (likeC (x := predicateSymmetric4_e1) (y := (.z 0)) (k := (.z 1)) (p := predicateSymmetric4_e0) (q := (.z 0)) (nz := [(.z 2)]) (varsA ρ) (nz_cons (two_ne _) nz_nil) (by kernel_rfl)) (show (0 : Rat) < ((1 : Int) : Rat) from by decide +kernel) h0
      have h3 := cmpR_like (likeC (x := predicateSymmetric4_e3) (y := (.z 0)) (k := (.z 1)) (p := predicateSymmetric4_e2) (q := (.z 0)) (nz := [(.z 2)]) (varsA ρ) (nz_cons (two_ne _) nz_nil) (by kernel_rfl)) (show (0 : Rat) < ((1 : Int) : Rat) from by decide +kernel) h1
      exact ⟨ρ, predicateSymmetric4_A2, (fun _ _ => rfl), (orc_cmp h0 (orc_cmp h1 (orc_cmp h2 (orc_cmp h3 orc_nil)))), predicateSymmetric4_p2⟩
    · skip
      have h2 := cmpR_like (likeC (x := predicateSymmetric4_e1) (y := (.z 0)) (k := (.z 1)) (p := predicateSymmetric4_e0) (q := (.z 0)) (nz := [predicateSymmetric4_e2, (.z 2)]) (varsA ρ) (nz_cons (ne_of_cmp h1 rfl) (nz_cons (two_ne _) nz_nil)) (by kernel_rfl)) (show (0 : Rat) < ((1 : Int) : Rat) from by decide +kernel) h0
      have h3 := cmpR_like (likeC (x := predicateSymmetric4_e3) (y := (.z 0)) (k := (.z 1)) (p := predicateSymmetric4_e2) (q := (.z 0)) (nz := [predicateSymmetric4_e2, (.z 2)]) (varsA ρ) (nz_cons (ne_of_cmp h1 rfl) (nz_cons (two_ne _) nz_nil)) (by kernel_rfl)) (show (0 : Rat) < ((1 : Int) : Rat) from by decide +kernel) h1
      exact ⟨ρ, predicateSymmetric4_A3, (fun _ _ => rfl), (orc_cmp h0 (orc_cmp h1 (orc_cmp h2 (orc_cmp h3 orc_nil)))), predicateSymmetric4_p3⟩
  · skip
    have h1 := cmpR_like (likeC (x := predicateSymmetric4_e1) (y := (.z 0)) (k := (.z 1)) (p := predicateSymmetric4_e0) (q := (.z 0)) (nz := [predicateSymmetric4_e0, (.z 2)]) (varsA ρ) (nz_cons (ne_of_cmp h0 rfl) (nz_cons (two_ne _) nz_nil)) (by kernel_rfl)) (show (0 : Rat) < ((1 : Int) : Rat) from by decide +kernel) h0
    exact ⟨ρ, predicateSymmetric4_A4, (fun _ _ => rfl), (orc_cmp h0 (orc_cmp h1 orc_nil)), predicateSymmetric4_p4⟩

theorem predicateSymmetric_q4 : PieceOK 8 (restN 1 (restN 1 (restN 1 (restN 4 predicateSymmetric_c)))) predicateSymmetric_k3.vn 63 1 predicateSymmetric_k4 72 := fun ρ => predicateSymmetric4_dec ρ
def predicateSymmetric5_e0 : RE := .mul (.sub (.v 0) (.v 6)) (.sub (.v 4) (.v 6))
def predicateSymmetric5_e1 : RE := .mul (.sub (.v 1) (.v 7)) (.sub (.v 5) (.v 7))
def predicateSymmetric5_e2 : RE := .add predicateSymmetric5_e0 predicateSymmetric5_e1
def predicateSymmetric5_e3 : RE := .mul (.sub (.v 0) (.v 2)) (.sub (.v 5) (.v 3))
def predicateSymmetric5_e4 : RE := .mul (.sub (.v 1) (.v 3)) (.sub (.v 4) (.v 2))
def predicateSymmetric5_e5 : RE := .sub predicateSymmetric5_e3 predicateSymmetric5_e4
def predicateSymmetric5_e6 : RE := .mul predicateSymmetric5_e2 predicateSymmetric5_e5
def predicateSymmetric5_e7 : RE := .mul (.sub (.v 0) (.v 2)) (.sub (.v 4) (.v 2))
def predicateSymmetric5_e8 : RE := .mul (.sub (.v 1) (.v 3)) (.sub (.v 5) (.v 3))
def predicateSymmetric5_e9 : RE := .add predicateSymmetric5_e7 predicateSymmetric5_e8
def predicateSymmetric5_e10 : RE := .mul (.sub (.v 0) (.v 6)) (.sub (.v 5) (.v 7))
def predicateSymmetric5_e11 : RE := .mul (.sub (.v 1) (.v 7)) (.sub (.v 4) (.v 6))
def predicateSymmetric5_e12 : RE := .sub predicateSymmetric5_e10 predicateSymmetric5_e11
def predicateSymmetric5_e13 : RE := .mul predicateSymmetric5_e9 predicateSymmetric5_e12
def predicateSymmetric5_e14 : RE := .sub predicateSymmetric5_e6 predicateSymmetric5_e13
def predicateSymmetric5_e15 : RE := .mul (.sub (.v 2) (.v 0)) (.sub (.v 6) (.v 0))
def predicateSymmetric5_e16 : RE := .mul (.sub (.v 3) (.v 1)) (.sub (.v 7) (.v 1))
def predicateSymmetric5_e17 : RE := .add predicateSymmetric5_e15 predicateSymmetric5_e16
def predicateSymmetric5_e18 : RE := .mul (.sub (.v 2) (.v 4)) (.sub (.v 7) (.v 5))
def predicateSymmetric5_e19 : RE := .mul (.sub (.v 3) (.v 5)) (.sub (.v 6) (.v 4))
def predicateSymmetric5_e20 : RE := .sub predicateSymmetric5_e18 predicateSymmetric5_e19
def predicateSymmetric5_e21 : RE := .mul predicateSymmetric5_e17 predicateSymmetric5_e20
def predicateSymmetric5_e22 : RE := .mul (.sub (.v 2) (.v 4)) (.sub (.v 6) (.v 4))
def predicateSymmetric5_e23 : RE := .mul (.sub (.v 3) (.v 5)) (.sub (.v 7) (.v 5))
def predicateSymmetric5_e24 : RE := .add predicateSymmetric5_e22 predicateSymmetric5_e23
def predicateSymmetric5_e25 : RE := .mul (.sub (.v 2) (.v 0)) (.sub (.v 7) (.v 1))
def predicateSymmetric5_e26 : RE := .mul (.sub (.v 3) (.v 1)) (.sub (.v 6) (.v 0))
def predicateSymmetric5_e27 : RE := .sub predicateSymmetric5_e25 predicateSymmetric5_e26
def predicateSymmetric5_e28 : RE := .mul predicateSymmetric5_e24 predicateSymmetric5_e27
def predicateSymmetric5_e29 : RE := .sub predicateSymmetric5_e21 predicateSymmetric5_e28
def predicateSymmetric5_e30 : RE := .sub predicateSymmetric5_e13 predicateSymmetric5_e6
def predicateSymmetric5_e31 : RE := .mul (.sub (.z 1) (.z 0)) (.sub (.z 2) (.z 0))
def predicateSymmetric5_e32 : RE := .sub predicateSymmetric5_e31 predicateSymmetric5_e31
def predicateSymmetric5_e33 : RE := .mul (.sub (.z 0) (.z 0)) (.sub (.z 1) (.z 0))
def predicateSymmetric5_e34 : RE := .mul (.sub (.z 1) (.z 0)) (.sub (.z 1) (.z 0))
def predicateSymmetric5_e35 : RE := .sub predicateSymmetric5_e33 predicateSymmetric5_e34
def predicateSymmetric5_A0 : Orc := { cmp := [(predicateSymmetric5_e14, (.z 0), -1), (predicateSymmetric5_e29, (.z 0), 1), (predicateSymmetric5_e30, (.z 0), 1), (predicateSymmetric5_e32, (.z 0), 0), (predicateSymmetric5_e35, (.z 0), -1)] }
theorem predicateSymmetric5_p0  : (acode Tryz.prog (ctrB predicateSymmetric5_A0 (yesN 8)) 20 (restN 1 (restN 1 (restN 1 (restN 1 (restN 4 predicateSymmetric_c))))) predicateSymmetric_k4.vn 72).map (fin Tryz.f13) = yesF := by kernel_rfl
def predicateSymmetric5_A1 : Orc := { cmp := [(predicateSymmetric5_e14, (.z 0), 0), (predicateSymmetric5_e29, (.z 0), 0), (predicateSymmetric5_e30, (.z 0), 0), (predicateSymmetric5_e32, (.z 0), 0), (predicateSymmetric5_e35, (.z 0), -1)] }
theorem predicateSymmetric5_p1  : (acode Tryz.prog (ctrB predicateSymmetric5_A1 (yesN 8)) 20 (restN 1 (restN 1 (restN 1 (restN 1 (restN 4 predicateSymmetric_c))))) predicateSymmetric_k4.vn 72).map (fin Tryz.f13) = yesF := by kernel_rfl
def predicateSymmetric5_A2 : Orc := { cmp := [(predicateSymmetric5_e14, (.z 0), 1), (predicateSymmetric5_e29, (.z 0), -1), (predicateSymmetric5_e30, (.z 0), -1), (predicateSymmetric5_e32, (.z 0), 0), (predicateSymmetric5_e35, (.z 0), -1)] }
theorem predicateSymmetric5_p2  : (acode Tryz.prog (ctrB predicateSymmetric5_A2 (yesN 8)) 20 (restN 1 (restN 1 (restN 1 (restN 1 (restN 4 predicateSymmetric_c))))) predicateSymmetric_k4.vn 72).map (fin Tryz.f13) = yesF := by kernel_rfl
theorem predicateSymmetric5_dec (ρ : Nat → Rat)  : ∃ (ρ' : Nat → Rat) (A : Orc), (∀ k, k < 9 → ρ' k = ρ k) ∧ A.OK ρ' ∧ (acode Tryz.prog (ctrB A (yesN 8)) 20 (restN 1 (restN 1 (restN 1 (restN 1 (restN 4 predicateSymmetric_c))))) predicateSymmetric_k4.vn 72).map (fin Tryz.f13) = yesF := by
  rcases cmpR_bound (RE.eval ρ predicateSymmetric5_e14) (RE.eval ρ (.z 0)) with h0 | h0 | h0
  · skip
    have h1 := cmpR_unlike (likeC (x := predicateSymmetric5_e29) (y := (.z 0)) (k := (.z (-1))) (p := predicateSymmetric5_e14) (q := (.z 0)) (nz := [predicateSymmetric5_e14, (.z 2)]) (varsA ρ) (nz_cons (ne_of_cmp h0 rfl) (nz_cons (two_ne _) nz_nil)) (by kernel_rfl)) (show ((-1 : Int) : Rat) < (0 : Rat) from by decide +kernel) h0
    have h2 := cmpR_unlike (likeC (x := predicateSymmetric5_e30) (y := (.z 0)) (k := (.z (-1))) (p := predicateSymmetric5_e14) (q := (.z 0)) (nz := [predicateSymmetric5_e14, predicateSymmetric5_e29, (.z 2)]) (varsA ρ) (nz_cons (ne_of_cmp h0 rfl) (nz_cons (ne_of_cmp h1 rfl) (nz_cons (two_ne _) nz_nil))) (by kernel_rfl)) (show ((-1 : Int) : Rat) < (0 : Rat) from by decide +kernel) h0
    have h3 := cmpR_zero.2 (eqC (x := predicateSymmetric5_e32) (y := (.z 0)) (nz := [predicateSymmetric5_e14, predicateSymmetric5_e29, predicateSymmetric5_e30, (.z 2)]) (varsA ρ) (nz_cons (ne_of_cmp h0 rfl) (nz_cons (ne_of_cmp h1 rfl) (nz_cons (ne_of_cmp h2 rfl) (nz_cons (two_ne _) nz_nil)))) (by kernel_rfl))
    have h4 := const_neg (x := predicateSymmetric5_e35) (n := -1) (eqC (x := predicateSymmetric5_e35) (y := .z (-1)) (nz := [predicateSymmetric5_e14, predicateSymmetric5_e29, predicateSymmetric5_e30, (.z 2)]) (varsA ρ) (nz_cons (ne_of_cmp h0 rfl) (nz_cons (ne_of_cmp h1 rfl) (nz_cons (ne_of_cmp h2 rfl) (nz_cons (two_ne _) nz_nil)))) (by kernel_rfl)) (by decide)
    exact ⟨ρ, predicateSymmetric5_A0, (fun _ _ => rfl), (orc_cmp h0 (orc_cmp h1 (orc_cmp h2 (orc_cmp h3 (orc_cmp h4 orc_nil))))), predicateSymmetric5_p0⟩
  · skip
    have h1 := cmpR_unlike (likeC (x := predicateSymmetric5_e29) (y := (.z 0)) (k := (.z (-1))) (p := predicateSymmetric5_e14) (q := (.z 0)) (nz := [(.z 2)]) (varsA ρ) (nz_cons (two_ne _) nz_nil) (by kernel_rfl)) (show ((-1 : Int) : Rat) < (0 : Rat) from by decide +kernel) h0
    have h2 := cmpR_unlike (likeC (x := predicateSymmetric5_e30) (y := (.z 0)) (k := (.z (-1))) (p := predicateSymmetric5_e14) (q := (.z 0)) (nz := [(.z 2)]) (varsA ρ) (nz_cons (two_ne _) nz_nil) (by kernel_rfl)) (show ((-1 : Int) : Rat) < (0 : Rat) from by decide +kernel) h0
    have h3 := cmpR_zero.2 (eqC (x := predicateSymmetric5_e32) (y := (.z 0)) (nz := [(.z 2)]) (varsA ρ) (nz_cons (two_ne _) nz_nil) (by kernel_rfl))
    have h4 := const_neg (x := predicateSymmetric5_e35) (n := -1) (eqC (x := predicateSymmetric5_e35) (y := .z (-1)) (nz := [(.z 2)]) (varsA ρ) (nz_cons (two_ne _) nz_nil) (by kernel_rfl)) (by decide)
    exact ⟨ρ, predicateSymmetric5_A1, (fun _ _ => rfl), (orc_cmp h0 (orc_cmp h1 (orc_cmp h2 (orc_cmp h3 (orc_cmp h4 orc_nil))))), predicateSymmetric5_p1⟩
  · skip
    have h1 := cmpR_unlike (likeC (x := predicateSymmetric5_e29) (y := (.z 0)) (k := (.z (-1))) (p := predicateSymmetric5_e14) (q := (.z 0)) (nz := [predicateSymmetric5_e14, (.z 2)]) (varsA ρ) (nz_cons (ne_of_cmp h0 rfl) (nz_cons (two_ne _) nz_nil)) (by kernel_rfl)) (show ((-1 : Int) : Rat) < (0 : Rat) from by decide +kernel) h0
    have h2 := cmpR_unlike (likeC (x := predicateSymmetric5_e30) (y := (.z 0)) (k := (.z (-1))) (p := predicateSymmetric5_e14) (q := (.z 0)) (nz := [predicateSymmetric5_e14, predicateSymmetric5_e29, (.z 2)]) (varsA ρ) (nz_cons (ne_of_cmp h0 rfl) (nz_cons (ne_of_cmp h1 rfl) (nz_cons (two_ne _) nz_nil))) (by kernel_rfl)) (show ((-1 : Int) : Rat) < (0 : Rat) from by decide +kernel) h0
    have h3 := cmpR_zero.2 (eqC (x := predicateSymmetric5_e32) (y := (.z 0)) (nz := [predicateSymmetric5_e14, predicateSymmetric5_e29, predicateSymmetric5_e30, (.z 2)]) (varsA ρ) (nz_cons (ne_of_cmp h0 rfl) (nz_cons (ne_of_cmp h1 rfl) (nz_cons (ne_of_cmp h2 rfl) (nz_cons (two_ne _) nz_nil)))) (by kernel_rfl))
    have h4 := const_neg (x := predicateSymmetric5_e35) (n := -1) (eqC (x := predicateSymmetric5_e35) (y := .z (-1)) (nz := [predicateSymmetric5_e14, predicateSymmetric5_e29, predicateSymmetric5_e30, (.z 2)]) (varsA ρ) (nz_cons (ne_of_cmp h0 rfl) (nz_cons (ne_of_cmp h1 rfl) (nz_cons (ne_of_cmp h2 rfl) (nz_cons (two_ne _) nz_nil)))) (by kernel_rfl)) (by decide)
    exact ⟨ρ, predicateSymmetric5_A2, (fun _ _ => rfl), (orc_cmp h0 (orc_cmp h1 (orc_cmp h2 (orc_cmp h3 (orc_cmp h4 orc_nil))))), predicateSymmetric5_p2⟩

theorem predicateSymmetric_q5 : LastOK 8 Tryz.f13 (restN 1 (restN 1 (restN 1 (restN 1 (restN 4 predicateSymmetric_c))))) predicateSymmetric_k4.vn 72 := fun ρ => predicateSymmetric5_dec ρ
theorem predicateSymmetric_walk {W : World} (T : Tb W) {F : Nat → List Value} (hF : ∀ k, k < 8 → NumR W (F k)) :
    Calls Tryz.prog 13 [Value.agg (join9 F 8).toArray].toArray W fun e w' => e = .returned (.bool true) ∧ W.grownBy w' none := by
  refine lawB (c := predicateSymmetric_c) (N := 8) (args := predicateSymmetric_args) Tryz.func13 (by kernel_rfl) (by kernel_rfl) T hF (fun π h1 h2 => F2.cons ⟨_, rfl, by rw [← h2]; exact cells9_rel (by rw [h1, h2]; exact hF)⟩ F2.nil) (fun k hk => ?_) fun hs ρ E a w Q h0 f0 hQ => ?_
  · match k, hk with
    | 0, _ => exact predicateSymmetric_no0
    | 1, _ => exact predicateSymmetric_no1
    | 2, _ => exact predicateSymmetric_no2
    | 3, _ => exact predicateSymmetric_no3
    | 4, _ => exact predicateSymmetric_no4
    | 5, _ => exact predicateSymmetric_no5
    | 6, _ => exact predicateSymmetric_no6
    | 7, _ => exact predicateSymmetric_no7
  refine pieceB T hs predicateSymmetric_q0 (VB_sy (by omega) _ _) (by kernel_rfl) h0 f0 fun E1 a1 w1 h1 f1 => ?_
  refine pieceB T hs predicateSymmetric_q1 (SyOK.of_keep (by kernel_rfl)) (by kernel_rfl) h1 f1 fun E2 a2 w2 h2 f2 => ?_
  refine pieceB T hs predicateSymmetric_q2 (SyOK.of_keep (by kernel_rfl)) (by kernel_rfl) h2 f2 fun E3 a3 w3 h3 f3 => ?_
  refine pieceB T hs predicateSymmetric_q3 (SyOK.of_keep (by kernel_rfl)) (by kernel_rfl) h3 f3 fun E4 a4 w4 h4 f4 => ?_
  refine pieceB T hs predicateSymmetric_q4 (SyOK.of_keep (by kernel_rfl)) (by kernel_rfl) h4 f4 fun E5 a5 w5 h5 f5 => ?_
  exact lastB T hs predicateSymmetric_q5 (SyOK.of_keep (by kernel_rfl)) h5 f5 hQ
end Go.Proofs.YtgbfjneoieadmaaGreatDoor
