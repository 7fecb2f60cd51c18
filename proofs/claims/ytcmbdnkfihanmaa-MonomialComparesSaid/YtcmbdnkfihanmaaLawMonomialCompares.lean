/-
  Whatever the arguments are, the Go function MonomialCompares returns true and leaves them as they are. No condition.
-/
import Derived.Test.YtcmbdnkfihanmaaMonoI
set_option linter.unusedVariables false
set_option linter.unusedSimpArgs false
namespace Go.Proofs.Ytcmbdnkfihanmaa
open Go.ChangeShapes Go.WideShapes Go.ChangeAt Go.RowKit Nm

set_option maxHeartbeats 1000000 in
theorem monomialCompares_walk (a b : Option Addr) (n m c d : Nat) (xs ys : List Int) (o : Int) (w : World) (h : ZRd w .i64 a n c xs) (k : ZRd w .i64 b m d ys) :
    Calls Try.prog 7 #[.slice a n c, .slice b m d, .int .i64 o] w fun e w' => e = .returned (.bool true) ∧ w.grownBy w' none := by
  have R1 := rright_any a n c xs w h
  have R2 := rright_any b m d ys w k
  have hW : w.grownBy w none := grown_refl _ _
  by_cases hx : RightZ 1048576 xs
  rotate_left
  · rw [decide_eq_false hx] at R1
    have H1 := hid R1
    clear R1 R2
    go_enter Try.func7, Try.ntmps7
    go_wp2_with fail
    refine (H1.out).mono ?_
    rintro e w' ⟨rfl, rfl⟩
    go_wp2_with fail
    refine (alive5 _).mono ?_
    rintro e w1 ⟨rfl, hg⟩
    go_wp2_with fail
    go_ret
    exact ⟨rfl, hg⟩
  rw [decide_eq_true hx] at R1
  have H1 := hid R1
  by_cases hy : RightZ 1048576 ys
  rotate_left
  · rw [decide_eq_false hy] at R2
    have H2 := hid R2
    clear R1 R2
    go_enter Try.func7, Try.ntmps7
    go_wp2_with fail
    refine (H1.out).mono ?_
    rintro e w' ⟨rfl, rfl⟩
    go_wp2_with fail
    refine (H2.out).mono ?_
    rintro e w' ⟨rfl, rfl⟩
    go_wp2_with fail
    refine (alive5 _).mono ?_
    rintro e w1 ⟨rfl, hg⟩
    go_wp2_with fail
    go_ret
    exact ⟨rfl, hg⟩
  rw [decide_eq_true hy] at R2
  have H2 := hid R2
  clear R1 R2
  have C1 := cmpM_any a b n m c d xs ys o w h k hx hy (by omega) (by omega)
  have C2 := rcmpM_any a b n m c d xs ys o w h k hx hy (by omega) (by omega)
  generalize ordZ o xs ys = z at C1 C2
  have K1 := hid C1
  have K2 := hid C2
  clear C1 C2 hx hy
  go_enter Try.func7, Try.ntmps7
  go_wp2_with fail
  refine (H1.out).mono ?_
  rintro e w' ⟨rfl, rfl⟩
  go_wp2_with fail
  refine (H2.out).mono ?_
  rintro e w' ⟨rfl, rfl⟩
  go_wp2_with fail
  refine (K1.out).mono ?_
  rintro e w' ⟨rfl, rfl⟩
  go_wp2_with fail
  refine (K2.out).mono ?_
  rintro e w' ⟨rfl, rfl⟩
  go_wp2_with fail
  refine (alive5 _).mono ?_
  rintro e w1 ⟨rfl, hg⟩
  replace hW := grown_trans hW hg; clear hg
  go_wp2_with fail
  go_ret
  exact ⟨rfl, hW⟩

set_option maxRecDepth 100000 in
theorem monomialCompares_lifted (os : Os) (started : os.Started) (H : Type) (enc : TypeId × Value → H) :
    ReturnsInHanded {} Try.checked os 7 .any (Rows.monomialComparesSpec.pre6 enc Try.prog Try.f7 Rows.monomialComparesRow.domain false) (Rows.monomialComparesSpec.post enc Try.prog Try.f7 false true false false) := by
  refine returnsInHanded_of_change (C := Try.checked) own5 started (by kernel_rfl) Try.func7
    (ChangeSpec.witness6 (enc := enc) (C := Try.checked) false ⟨#[], #[.slice none 0 0, .slice none 0 0, .int .i64 0], []⟩ 8 (by kernel_rfl) (by kernel_rfl) (by kernel_rfl) (by kernel_rfl)) ?_
  intro W base args ds gs before hval0 hW hcnd _
  have hval : ∀ (j : Nat) t v, Try.f7.params[j]? = some t → args[j]? = some v → Value.okWide Try.prog W .any base t v := hval0
  have hW' := hW
  obtain ⟨p, q, hA0, hV, rfl, hfz, hnd⟩ := hW
  have hA : DataW.TrodAll enc Try.prog W 0 (fun _ => true) true Try.f7.params.toList args.toList ds p := hA0
  rw [Try.params7] at hA hval
  obtain ⟨v0, v1, v2, d0, d1, d2, p0, p1, p2, rfl, rfl, rfl, h0, h1, h2⟩ := trodAll_three hA
  obtain ⟨rfl, rfl⟩ := trodVars_none hV
  have hlt : ∀ x ∈ p0 ++ (p1 ++ (p2)), x.block < W.heap.size := fun x hx => hW'.lt x (by simpa using hx)
  obtain ⟨a, n, c, xs, rfl, hr0⟩ := open_mono (hval 0 35 v0 rfl rfl) h0
  obtain ⟨b, m, d, ys, rfl, hr1⟩ := open_mono (hval 1 35 v1 rfl rfl) h1
  obtain ⟨z2, rfl, rfl, rfl, wz2⟩ := open_int Try.underlying3 (hval 2 3 v2 rfl rfl) h2
  refine (monomialCompares_walk a b n m c d xs ys z2 W hr0 hr1).mono fun e W' ⟨he, hg⟩ => ?_
  subst he
  have hB := grown_below hg
  exact ⟨_, rfl, _, _, _, [], _, [], hW', trodAll_mk1 (shut_bool Try.underlying4 true),
    trodAll_mk3 (Below.trod laidOut5 readMono rowMono h0 hB fun x hx => hlt x (by simp [hx])) (Below.trod laidOut5 readMono rowMono h1 hB fun x hx => hlt x (by simp [hx])) (shut_int Try.underlying3 wz2), rfl, hB.frame _, fun h => by cases h⟩

theorem monomialCompares_holds : Rows.MonomialComparesSaid :=
  OpenClaim.holds_of_wide 7 Try.f7 rfl rfl rfl rfl rfl rfl rfl ⟨rfl, rfl, rfl, rfl, rfl⟩ rfl rfl rfl rfl rfl (by kernel_rfl) Try.func7 (by kernel_rfl)
    (of_decide_eq_true (by kernel_rfl)) (by unfold Func.isWrapper; first | (rw [if_pos (by decide +kernel)]; kernel_rfl) | (rw [if_neg (by decide +kernel)]; exact ⟨rfl, rfl⟩))
    (fun os started H enc _ => monomialCompares_lifted os started H enc)
end Go.Proofs.Ytcmbdnkfihanmaa
