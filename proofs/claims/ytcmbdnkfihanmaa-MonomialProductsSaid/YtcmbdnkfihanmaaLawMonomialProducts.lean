/-
  Whatever the arguments are, the Go function MonomialProducts returns true and leaves them as they are. No condition.
-/
import Derived.Test.YtcmbdnkfihanmaaMonoI
import Derived.Test.YtcmbdnkfihanmaaMonoQ
set_option linter.unusedVariables false
set_option linter.unusedSimpArgs false
namespace Go.Proofs.Ytcmbdnkfihanmaa
open Go.ChangeShapes Go.WideShapes Go.ChangeAt Go.RowKit Nm

set_option maxHeartbeats 2000000 in
theorem monomialProducts_walk (a b : Option Addr) (n m c d : Nat) (xs ys : List Int) (w : World) (h : ZRd w .i64 a n c xs) (k : ZRd w .i64 b m d ys) :
    Calls Try.prog 6 #[.slice a n c, .slice b m d] w fun e w' => e = .returned (.bool true) ∧ w.grownBy w' none := by
  have R1 := rright_any a n c xs w h
  have R2 := rright_any b m d ys w k
  have hW : w.grownBy w none := grown_refl _ _
  by_cases hx : RightZ 1048576 xs
  rotate_left
  · rw [decide_eq_false hx] at R1
    have H1 := hid R1
    clear R1 R2
    go_enter Try.func6, Try.ntmps6
    go_wp2_with fail
    refine (H1.out).mono ?_
    rintro e w' ⟨rfl, rfl⟩
    go_wp2_with fail
    refine (alive5 _).mono ?_
    rintro e w1 ⟨rfl, hg⟩
    go_wp2_with fail
    go_ret
    exact ⟨rfl, hg⟩
  rw [decide_eq_true hx] at R1
  have H1 := hid R1
  by_cases hy : RightZ 1048576 ys
  rotate_left
  · rw [decide_eq_false hy] at R2
    have H2 := hid R2
    clear R1 R2
    go_enter Try.func6, Try.ntmps6
    go_wp2_with fail
    refine (H1.out).mono ?_
    rintro e w' ⟨rfl, rfl⟩
    go_wp2_with fail
    refine (H2.out).mono ?_
    rintro e w' ⟨rfl, rfl⟩
    go_wp2_with fail
    refine (alive5 _).mono ?_
    rintro e w1 ⟨rfl, hg⟩
    go_wp2_with fail
    go_ret
    exact ⟨rfl, hg⟩
  rw [decide_eq_true hy] at R2
  have H2 := hid R2
  clear R1 R2
  have E1 := hid (mulZ_id hx hy (by omega) (by omega))
  have E2 := hid (lcmZ_id hx hy (by omega) (by omega))
  go_enter Try.func6, Try.ntmps6
  go_wp2_with fail
  refine (H1.out).mono ?_
  rintro e w' ⟨rfl, rfl⟩
  go_wp2_with fail
  refine (H2.out).mono ?_
  rintro e w' ⟨rfl, rfl⟩
  go_wp2_with fail
  refine (quo_any _ _ _ _ _ _ _ _ _ h k hx hy (by omega) (by omega)).mono ?_
  rintro e w1 ⟨p1, c1, rfl, q1, hg⟩
  replace h := h.keep hg; replace k := k.keep hg; replace hW := grown_trans hW hg; clear hg
  go_wp2_with fail
  refine (rquo_any _ _ _ _ _ _ _ _ _ h k hx hy (by omega)).mono ?_
  rintro e w2 ⟨p2, c2, rfl, q2, hg⟩
  replace h := h.keep hg; replace k := k.keep hg; replace q1 := q1.keep hg; replace hW := grown_trans hW hg; clear hg
  go_wp2_with fail
  refine (mul_any _ _ _ _ _ _ _ _ _ h k hx hy (by omega) (by omega)).mono ?_
  rintro e w3 ⟨p3, c3, rfl, m1, hg⟩
  replace h := h.keep hg; replace k := k.keep hg; replace q1 := q1.keep hg; replace q2 := q2.keep hg; replace hW := grown_trans hW hg; clear hg
  go_wp2_with fail
  refine (rmul_any _ _ _ _ _ _ _ _ _ h k hx hy (by omega) (by omega)).mono ?_
  rintro e w4 ⟨p4, c4, rfl, m2, hg⟩
  replace h := h.keep hg; replace k := k.keep hg; replace q1 := q1.keep hg; replace q2 := q2.keep hg; replace m1 := m1.keep hg; replace hW := grown_trans hW hg; clear hg
  go_wp2_with fail
  refine (sameM_true m1 m2 E1.out).mono ?_
  rintro e w5 ⟨rfl, hg⟩
  replace h := h.keep hg; replace k := k.keep hg; replace q1 := q1.keep hg; replace q2 := q2.keep hg; replace m1 := m1.keep hg; replace m2 := m2.keep hg; replace hW := grown_trans hW hg; clear hg
  clear m1
  clear m2
  go_wp2_with fail
  refine (lcm_any _ _ _ _ _ _ _ _ _ h k hx hy (by omega) (by omega)).mono ?_
  rintro e w6 ⟨p6, c6, rfl, m3, hg⟩
  replace h := h.keep hg; replace k := k.keep hg; replace q1 := q1.keep hg; replace q2 := q2.keep hg; replace hW := grown_trans hW hg; clear hg
  go_wp2_with fail
  refine (rlcm_any _ _ _ _ _ _ _ _ _ h k hx hy (by omega) (by omega)).mono ?_
  rintro e w7 ⟨p7, c7, rfl, m4, hg⟩
  replace h := h.keep hg; replace k := k.keep hg; replace q1 := q1.keep hg; replace q2 := q2.keep hg; replace m3 := m3.keep hg; replace hW := grown_trans hW hg; clear hg
  go_wp2_with fail
  refine (sameM_true m3 m4 E2.out).mono ?_
  rintro e w8 ⟨rfl, hg⟩
  replace h := h.keep hg; replace k := k.keep hg; replace q1 := q1.keep hg; replace q2 := q2.keep hg; replace m3 := m3.keep hg; replace m4 := m4.keep hg; replace hW := grown_trans hW hg; clear hg
  clear m3
  clear m4
  generalize dvdB ys xs = v1 at *
  go_wp2_with fail
  refine (divides_any _ _ _ _ _ _ _ _ _ h k).mono ?_
  rintro e w' ⟨rfl, rfl⟩
  go_wp2_with fail
  refine (rdivides_any _ _ _ _ _ _ _ _ _ h k).mono ?_
  rintro e w9 ⟨rfl, hg⟩
  replace h := h.keep hg; replace k := k.keep hg; replace q1 := q1.keep hg; replace q2 := q2.keep hg; replace hW := grown_trans hW hg; clear hg
  generalize dvdB xs ys = v2 at *
  go_wp2_with fail
  refine (sameM_true q1 q2 rfl).mono ?_
  rintro e w10 ⟨rfl, hg⟩
  replace h := h.keep hg; replace k := k.keep hg; replace q1 := q1.keep hg; replace q2 := q2.keep hg; replace hW := grown_trans hW hg; clear hg
  go_wp2_with fail
  refine (coprime_any _ _ _ _ _ _ _ _ _ h k).mono ?_
  rintro e w' ⟨rfl, rfl⟩
  go_wp2_with fail
  refine (rcoprime_any _ _ _ _ _ _ _ _ _ h k hx hy (by omega) (by omega)).mono ?_
  rintro e w' ⟨rfl, rfl⟩
  go_wp2_with fail
  refine (alive5 _).mono ?_
  rintro e w11 ⟨rfl, hg⟩
  replace h := h.keep hg; replace k := k.keep hg; replace q1 := q1.keep hg; replace q2 := q2.keep hg; replace hW := grown_trans hW hg; clear hg
  go_wp2_with fail
  go_ret
  exact ⟨rfl, hW⟩

set_option maxRecDepth 100000 in
theorem monomialProducts_lifted (os : Os) (started : os.Started) (H : Type) (enc : TypeId × Value → H) :
    ReturnsInHanded {} Try.checked os 6 .any (Rows.monomialProductsSpec.pre6 enc Try.prog Try.f6 Rows.monomialProductsRow.domain false) (Rows.monomialProductsSpec.post enc Try.prog Try.f6 false true false false) := by
  refine returnsInHanded_of_change (C := Try.checked) own5 started (by kernel_rfl) Try.func6
    (ChangeSpec.witness6 (enc := enc) (C := Try.checked) false ⟨#[], #[.slice none 0 0, .slice none 0 0], []⟩ 8 (by kernel_rfl) (by kernel_rfl) (by kernel_rfl) (by kernel_rfl)) ?_
  intro W base args ds gs before hval0 hW hcnd _
  have hval : ∀ (j : Nat) t v, Try.f6.params[j]? = some t → args[j]? = some v → Value.okWide Try.prog W .any base t v := hval0
  have hW' := hW
  obtain ⟨p, q, hA0, hV, rfl, hfz, hnd⟩ := hW
  have hA : DataW.TrodAll enc Try.prog W 0 (fun _ => true) true Try.f6.params.toList args.toList ds p := hA0
  rw [Try.params6] at hA hval
  obtain ⟨v0, v1, d0, d1, p0, p1, rfl, rfl, rfl, h0, h1⟩ := trodAll_two hA
  obtain ⟨rfl, rfl⟩ := trodVars_none hV
  have hlt : ∀ x ∈ p0 ++ (p1), x.block < W.heap.size := fun x hx => hW'.lt x (by simpa using hx)
  obtain ⟨a, n, c, xs, rfl, hr0⟩ := open_mono (hval 0 35 v0 rfl rfl) h0
  obtain ⟨b, m, d, ys, rfl, hr1⟩ := open_mono (hval 1 35 v1 rfl rfl) h1
  refine (monomialProducts_walk a b n m c d xs ys W hr0 hr1).mono fun e W' ⟨he, hg⟩ => ?_
  subst he
  have hB := grown_below hg
  exact ⟨_, rfl, _, _, _, [], _, [], hW', trodAll_mk1 (shut_bool Try.underlying4 true),
    trodAll_mk2 (Below.trod laidOut5 readMono rowMono h0 hB fun x hx => hlt x (by simp [hx])) (Below.trod laidOut5 readMono rowMono h1 hB fun x hx => hlt x (by simp [hx])), rfl, hB.frame _, fun h => by cases h⟩

theorem monomialProducts_holds : Rows.MonomialProductsSaid :=
  OpenClaim.holds_of_wide 6 Try.f6 rfl rfl rfl rfl rfl rfl rfl ⟨rfl, rfl, rfl, rfl, rfl⟩ rfl rfl rfl rfl rfl (by kernel_rfl) Try.func6 (by kernel_rfl)
    (of_decide_eq_true (by kernel_rfl)) (by unfold Func.isWrapper; first | (rw [if_pos (by decide +kernel)]; kernel_rfl) | (rw [if_neg (by decide +kernel)]; exact ⟨rfl, rfl⟩))
    (fun os started H enc _ => monomialProducts_lifted os started H enc)
end Go.Proofs.Ytcmbdnkfihanmaa
