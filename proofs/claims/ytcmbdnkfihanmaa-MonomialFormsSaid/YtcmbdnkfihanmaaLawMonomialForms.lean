/-
  Whatever the arguments are, the Go function MonomialForms returns true and leaves them as they are. No condition.
-/
import Derived.Test.YtcmbdnkfihanmaaMonoI
set_option linter.unusedVariables false
set_option linter.unusedSimpArgs false
namespace Go.Proofs.Ytcmbdnkfihanmaa
open Go.ChangeShapes Go.WideShapes Go.ChangeAt Go.RowKit Nm

set_option maxHeartbeats 1000000 in
theorem monomialForms_walk (a : Option Addr) (n c : Nat) (xs : List Int) (w : World) (h : ZRd w .i64 a n c xs) :
    Calls Try.prog 4 #[.slice a n c] w fun e w' => e = .returned (.bool true) ∧ w.grownBy w' none := by
  have hmax := h.max
  have hcap := h.cap
  by_cases h0 : 200 < n
  · have h1 : (200 : Int) < n := by omega
    have hW : w.grownBy w none := grown_refl _ _
    go_enter Try.func4, Try.ntmps4
    go_wp2_with fail
    refine (alive5 _).mono ?_
    rintro e w1 ⟨rfl, hg⟩
    replace hW := grown_trans hW hg; clear hg
    go_wp2_with fail
    go_ret
    exact ⟨rfl, hW⟩
  · have h1 : ¬ (200 : Int) < n := by omega
    have hW : w.grownBy w none := grown_refl _ _
    have R1 := right_any a n c xs w h
    have R2 := rright_any a n c xs w h
    generalize decide (RightZ 1048576 xs) = q at R1 R2
    have H1 := hid R1
    have H2 := hid R2
    clear R1 R2
    go_enter Try.func4, Try.ntmps4
    go_wp2_with fail
    refine (H1.out).mono ?_
    rintro e w' ⟨rfl, rfl⟩
    go_wp2_with fail
    refine (H2.out).mono ?_
    rintro e w' ⟨rfl, rfl⟩
    go_wp2_with fail
    refine (normM_any _ _ _ _ _ h).mono ?_
    rintro e w1 ⟨p1, c1, rfl, r1, hg⟩
    replace h := h.keep hg; replace hW := grown_trans hW hg; clear hg
    go_wp2_with fail
    refine (rnormM_any _ _ _ _ _ h (by omega)).mono ?_
    rintro e w2 ⟨p2, c2, rfl, r2, hg⟩
    replace h := h.keep hg; replace r1 := r1.keep hg; replace hW := grown_trans hW hg; clear hg
    go_wp2_with fail
    refine (sameM_true r1 r2 rfl).mono ?_
    rintro e w3 ⟨rfl, hg⟩
    replace h := h.keep hg; replace r1 := r1.keep hg; replace r2 := r2.keep hg; replace hW := grown_trans hW hg; clear hg
    go_wp2_with fail
    refine (alive5 _).mono ?_
    rintro e w4 ⟨rfl, hg⟩
    replace h := h.keep hg; replace r1 := r1.keep hg; replace r2 := r2.keep hg; replace hW := grown_trans hW hg; clear hg
    go_wp2_with fail
    go_ret
    exact ⟨rfl, hW⟩

set_option maxRecDepth 100000 in
theorem monomialForms_lifted (os : Os) (started : os.Started) (H : Type) (enc : TypeId × Value → H) :
    ReturnsInHanded {} Try.checked os 4 .any (Rows.monomialFormsSpec.pre6 enc Try.prog Try.f4 Rows.monomialFormsRow.domain false) (Rows.monomialFormsSpec.post enc Try.prog Try.f4 false true false false) := by
  refine returnsInHanded_of_change (C := Try.checked) own5 started (by kernel_rfl) Try.func4
    (ChangeSpec.witness6 (enc := enc) (C := Try.checked) false ⟨#[], #[.slice none 0 0], []⟩ 8 (by kernel_rfl) (by kernel_rfl) (by kernel_rfl) (by kernel_rfl)) ?_
  intro W base args ds gs before hval0 hW hcnd _
  have hval : ∀ (j : Nat) t v, Try.f4.params[j]? = some t → args[j]? = some v → Value.okWide Try.prog W .any base t v := hval0
  have hW' := hW
  obtain ⟨p, q, hA0, hV, rfl, hfz, hnd⟩ := hW
  have hA : DataW.TrodAll enc Try.prog W 0 (fun _ => true) true Try.f4.params.toList args.toList ds p := hA0
  rw [Try.params4] at hA hval
  obtain ⟨v0, d0, rfl, rfl, h0⟩ := trodAll_one hA
  obtain ⟨rfl, rfl⟩ := trodVars_none hV
  have hlt : ∀ x ∈ p, x.block < W.heap.size := fun x hx => hW'.lt x (by simpa using hx)
  obtain ⟨a, n, c, xs, rfl, hr0⟩ := open_mono (hval 0 35 v0 rfl rfl) h0
  refine (monomialForms_walk a n c xs W hr0).mono fun e W' ⟨he, hg⟩ => ?_
  subst he
  have hB := grown_below hg
  exact ⟨_, rfl, _, _, _, [], _, [], hW', trodAll_mk1 (shut_bool Try.underlying4 true),
    trodAll_mk1 (Below.trod laidOut5 readMono rowMono h0 hB fun x hx => hlt x (by simp [hx])), rfl, hB.frame _, fun h => by cases h⟩

theorem monomialForms_holds : Rows.MonomialFormsSaid :=
  OpenClaim.holds_of_wide 4 Try.f4 rfl rfl rfl rfl rfl rfl rfl ⟨rfl, rfl, rfl, rfl, rfl⟩ rfl rfl rfl rfl rfl (by kernel_rfl) Try.func4 (by kernel_rfl)
    (of_decide_eq_true (by kernel_rfl)) (by unfold Func.isWrapper; first | (rw [if_pos (by decide +kernel)]; kernel_rfl) | (rw [if_neg (by decide +kernel)]; exact ⟨rfl, rfl⟩))
    (fun os started H enc _ => monomialForms_lifted os started H enc)
end Go.Proofs.Ytcmbdnkfihanmaa
