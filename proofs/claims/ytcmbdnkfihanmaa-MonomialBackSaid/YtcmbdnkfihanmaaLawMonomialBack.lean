/-
  Whatever the arguments are, the Go function MonomialBack returns true and leaves them as they are. No condition.
-/
import Derived.Test.YtcmbdnkfihanmaaMonoI
import Derived.Test.YtcmbdnkfihanmaaMonoR
set_option linter.unusedVariables false
set_option linter.unusedSimpArgs false
namespace Go.Proofs.Ytcmbdnkfihanmaa
open Go.ChangeShapes Go.WideShapes Go.ChangeAt Go.RowKit Nm

set_option maxRecDepth 100000 in
set_option maxHeartbeats 4000000 in
theorem monomialBack_walk (a b r : Option Addr) (n m l c d k : Nat) (xs ys zs : List Int) (w : World) (h1 : ZRd w .i64 a n c xs) (h2 : ZRd w .i64 b m d ys) (h3 : ZRd w .i64 r l k zs) :
    Calls Try.prog 8 #[.slice a n c, .slice b m d, .slice r l k] w fun e w' => e = .returned (.bool true) ∧ w.grownBy w' none := by
  have S3 := right5_three a b r n m l c d k xs ys zs w h1 h2 h3
  have hW : w.grownBy w none := grown_refl _ _
  by_cases hr : RightZ 262144 xs ∧ RightZ 262144 ys ∧ RightZ 262144 zs
  rotate_left
  · rw [decide_eq_false hr] at S3
    have HS := hid S3
    clear S3
    go_enter Try.func8, Try.ntmps8
    go_wp2_with fail
    refine (HS.out).mono ?_
    rintro e w1 ⟨rfl, hg1⟩
    go_wp2_with fail
    refine (alive5 _).mono ?_
    rintro e w2 ⟨rfl, hg2⟩
    go_wp2_with fail
    go_ret
    exact ⟨rfl, grown_trans hg1 hg2⟩
  rw [decide_eq_true hr] at S3
  have HS := hid S3
  clear S3
  obtain ⟨hx, hy, hz⟩ := hr
  have hp : RightZ 524288 (mulZ xs ys) := mulZ_right hx hy (by omega) (by omega) (by omega)
  have hl : RightZ 262144 (lcmZ xs ys) := lcmZ_right hx hy (by omega) (by omega)
  have hm : RightZ 786432 (mulZ zs (mulZ xs ys)) := mulZ_right hz hp (by omega) (by omega) (by omega)
  have ht : RightZ 524288 (mulZ zs xs) := mulZ_right hz hx (by omega) (by omega) (by omega)
  have E1 := hid (dvd_mul hp (by omega) hx (by omega))
  have E2 := hid (quoZ_mul hp (by omega) hx (by omega))
  have E3 := hid (dvd_lcm1 hl (by omega))
  have E4 := hid (dvd_lcm2 hl (by omega))
  have E5 := hid (lcm_dvd_mul hm (by omega) hx hy hz (by omega))
  have E6 := hid (lcm_is_mul hx hy (by omega))
  have E7 := hid (fun p q => lcm_dvd hz (by omega) (xs := xs) (ys := ys) p q)
  have E8 := hid (mulZ_assoc xs ys zs)
  have E9 := hid (mulZ_comm xs ys)
  go_enter Try.func8, Try.ntmps8
  go_wp2_with fail
  refine (HS.out).mono ?_
  rintro e w1 ⟨rfl, hg⟩
  replace h1 := h1.keep hg; replace h2 := h2.keep hg; replace h3 := h3.keep hg; replace hW := grown_trans hW hg; clear hg
  go_wp2_with fail
  refine (mul_any _ _ _ _ _ _ _ _ _ h1 h2 hx hy (by omega) (by omega)).mono ?_
  rintro e w2 ⟨p2, c2, rfl, p1, hg⟩
  replace h1 := h1.keep hg; replace h2 := h2.keep hg; replace h3 := h3.keep hg; replace hW := grown_trans hW hg; clear hg
  go_wp2_with fail
  refine (lcm_any _ _ _ _ _ _ _ _ _ h1 h2 hx hy (by omega) (by omega)).mono ?_
  rintro e w3 ⟨p3, c3, rfl, l1, hg⟩
  replace h1 := h1.keep hg; replace h2 := h2.keep hg; replace h3 := h3.keep hg; replace p1 := p1.keep hg; replace hW := grown_trans hW hg; clear hg
  have Q := quo_any _ _ _ _ _ _ _ _ _ p1 h2 hp hy (by omega) (by omega)
  rw [E2.out, E1.out] at Q
  have HQ := hid Q
  clear Q
  go_wp2_with fail
  refine (HQ.out).mono ?_
  rintro e w4 ⟨p4, c4, rfl, q1, hg⟩
  replace h1 := h1.keep hg; replace h2 := h2.keep hg; replace h3 := h3.keep hg; replace p1 := p1.keep hg; replace l1 := l1.keep hg; replace hW := grown_trans hW hg; clear hg
  go_wp2_with fail
  refine (sameM_true q1 h1 rfl).mono ?_
  rintro e w5 ⟨rfl, hg⟩
  replace h1 := h1.keep hg; replace h2 := h2.keep hg; replace h3 := h3.keep hg; replace p1 := p1.keep hg; replace l1 := l1.keep hg; replace q1 := q1.keep hg; replace hW := grown_trans hW hg; clear hg
  clear q1
  go_wp2_with fail
  refine (mul_any _ _ _ _ _ _ _ _ _ h2 h1 hy hx (by omega) (by omega)).mono ?_
  rintro e w6 ⟨p6, c6, rfl, p2, hg⟩
  replace h1 := h1.keep hg; replace h2 := h2.keep hg; replace h3 := h3.keep hg; replace p1 := p1.keep hg; replace l1 := l1.keep hg; replace hW := grown_trans hW hg; clear hg
  go_wp2_with fail
  refine (sameM_true p1 p2 E9.out).mono ?_
  rintro e w7 ⟨rfl, hg⟩
  replace h1 := h1.keep hg; replace h2 := h2.keep hg; replace h3 := h3.keep hg; replace p1 := p1.keep hg; replace l1 := l1.keep hg; replace p2 := p2.keep hg; replace hW := grown_trans hW hg; clear hg
  clear p2
  go_wp2_with fail
  refine (rightM_true p1 (hp.mono (by omega))).mono ?_
  rintro e w' ⟨rfl, rfl⟩
  go_wp2_with fail
  refine (rightM_true l1 (hl.mono (by omega))).mono ?_
  rintro e w' ⟨rfl, rfl⟩
  go_wp2_with fail
  refine (divides_is h1 l1 E3.out).mono ?_
  rintro e w' ⟨rfl, rfl⟩
  go_wp2_with fail
  refine (divides_is h2 l1 E4.out).mono ?_
  rintro e w' ⟨rfl, rfl⟩
  have C0 := coprime_any _ _ _ _ _ _ _ _ _ h1 h2
  have S0 := sameM_any _ _ _ _ _ _ _ _ _ l1 p1
  rw [E6.out] at S0
  generalize copB xs ys = v at C0 S0
  have C1 := hid C0
  have S1 := hid S0
  clear C0 S0
  go_wp2_with fail
  refine (C1.out).mono ?_
  rintro e w' ⟨rfl, rfl⟩
  go_wp2_with fail
  refine (S1.out).mono ?_
  rintro e w8 ⟨rfl, hg⟩
  replace h1 := h1.keep hg; replace h2 := h2.keep hg; replace h3 := h3.keep hg; replace p1 := p1.keep hg; replace l1 := l1.keep hg; replace hW := grown_trans hW hg; clear hg
  clear C1 S1
  go_wp2_with fail
  refine (mul_any _ _ _ _ _ _ _ _ _ h3 p1 hz hp (by omega) (by omega)).mono ?_
  rintro e w9 ⟨p9, c9, rfl, m1, hg⟩
  replace h1 := h1.keep hg; replace h2 := h2.keep hg; replace h3 := h3.keep hg; replace p1 := p1.keep hg; replace l1 := l1.keep hg; replace hW := grown_trans hW hg; clear hg
  by_cases d1 : dvdB xs zs = true
  · by_cases d2 : dvdB ys zs = true
    · have D3 := hid (E7.out d1 d2)
      have D1 := hid d1
      have D2 := hid d2
      clear d1 d2
      go_wp2_with fail
      refine (divides_is h1 h3 D1.out).mono ?_
      rintro e w' ⟨rfl, rfl⟩
      go_wp2_with fail
      refine (divides_is h2 h3 D2.out).mono ?_
      rintro e w' ⟨rfl, rfl⟩
      go_wp2_with fail
      refine (divides_is l1 h3 D3.out).mono ?_
      rintro e w' ⟨rfl, rfl⟩
      go_wp2_with fail
      refine (divides_is l1 m1 E5.out).mono ?_
      rintro e w' ⟨rfl, rfl⟩
      go_wp2_with fail
      refine (mul_any _ _ _ _ _ _ _ _ _ h3 h1 hz hx (by omega) (by omega)).mono ?_
      rintro e w10 ⟨p10, c10, rfl, t1, hg⟩
      replace h1 := h1.keep hg; replace h2 := h2.keep hg; replace h3 := h3.keep hg; replace p1 := p1.keep hg; replace l1 := l1.keep hg; replace m1 := m1.keep hg; replace hW := grown_trans hW hg; clear hg
      go_wp2_with fail
      refine (mul_any _ _ _ _ _ _ _ _ _ t1 h2 ht hy (by omega) (by omega)).mono ?_
      rintro e w11 ⟨p11, c11, rfl, t2, hg⟩
      replace h1 := h1.keep hg; replace h2 := h2.keep hg; replace h3 := h3.keep hg; replace p1 := p1.keep hg; replace l1 := l1.keep hg; replace m1 := m1.keep hg; replace t1 := t1.keep hg; replace hW := grown_trans hW hg; clear hg
      go_wp2_with fail
      refine (sameM_true m1 t2 E8.out).mono ?_
      rintro e w12 ⟨rfl, hg⟩
      replace h1 := h1.keep hg; replace h2 := h2.keep hg; replace h3 := h3.keep hg; replace p1 := p1.keep hg; replace l1 := l1.keep hg; replace m1 := m1.keep hg; replace t1 := t1.keep hg; replace t2 := t2.keep hg; replace hW := grown_trans hW hg; clear hg
      go_wp2_with fail
      refine (alive5 _).mono ?_
      rintro e w13 ⟨rfl, hg⟩
      replace h1 := h1.keep hg; replace h2 := h2.keep hg; replace h3 := h3.keep hg; replace p1 := p1.keep hg; replace l1 := l1.keep hg; replace m1 := m1.keep hg; replace t1 := t1.keep hg; replace t2 := t2.keep hg; replace hW := grown_trans hW hg; clear hg
      go_wp2_with fail
      go_ret
      exact ⟨rfl, hW⟩
    · have D1 := hid d1
      have D2 := hid (eq_false_of_ne_true d2)
      clear d1 d2
      go_wp2_with fail
      refine (divides_is h1 h3 D1.out).mono ?_
      rintro e w' ⟨rfl, rfl⟩
      go_wp2_with fail
      refine (divides_is h2 h3 D2.out).mono ?_
      rintro e w' ⟨rfl, rfl⟩
      go_wp2_with fail
      refine (divides_is l1 m1 E5.out).mono ?_
      rintro e w' ⟨rfl, rfl⟩
      go_wp2_with fail
      refine (mul_any _ _ _ _ _ _ _ _ _ h3 h1 hz hx (by omega) (by omega)).mono ?_
      rintro e w10 ⟨p10, c10, rfl, t1, hg⟩
      replace h1 := h1.keep hg; replace h2 := h2.keep hg; replace h3 := h3.keep hg; replace p1 := p1.keep hg; replace l1 := l1.keep hg; replace m1 := m1.keep hg; replace hW := grown_trans hW hg; clear hg
      go_wp2_with fail
      refine (mul_any _ _ _ _ _ _ _ _ _ t1 h2 ht hy (by omega) (by omega)).mono ?_
      rintro e w11 ⟨p11, c11, rfl, t2, hg⟩
      replace h1 := h1.keep hg; replace h2 := h2.keep hg; replace h3 := h3.keep hg; replace p1 := p1.keep hg; replace l1 := l1.keep hg; replace m1 := m1.keep hg; replace t1 := t1.keep hg; replace hW := grown_trans hW hg; clear hg
      go_wp2_with fail
      refine (sameM_true m1 t2 E8.out).mono ?_
      rintro e w12 ⟨rfl, hg⟩
      replace h1 := h1.keep hg; replace h2 := h2.keep hg; replace h3 := h3.keep hg; replace p1 := p1.keep hg; replace l1 := l1.keep hg; replace m1 := m1.keep hg; replace t1 := t1.keep hg; replace t2 := t2.keep hg; replace hW := grown_trans hW hg; clear hg
      go_wp2_with fail
      refine (alive5 _).mono ?_
      rintro e w13 ⟨rfl, hg⟩
      replace h1 := h1.keep hg; replace h2 := h2.keep hg; replace h3 := h3.keep hg; replace p1 := p1.keep hg; replace l1 := l1.keep hg; replace m1 := m1.keep hg; replace t1 := t1.keep hg; replace t2 := t2.keep hg; replace hW := grown_trans hW hg; clear hg
      go_wp2_with fail
      go_ret
      exact ⟨rfl, hW⟩
  · have D1 := hid (eq_false_of_ne_true d1)
    clear d1
    go_wp2_with fail
    refine (divides_is h1 h3 D1.out).mono ?_
    rintro e w' ⟨rfl, rfl⟩
    go_wp2_with fail
    refine (divides_is l1 m1 E5.out).mono ?_
    rintro e w' ⟨rfl, rfl⟩
    go_wp2_with fail
    refine (mul_any _ _ _ _ _ _ _ _ _ h3 h1 hz hx (by omega) (by omega)).mono ?_
    rintro e w10 ⟨p10, c10, rfl, t1, hg⟩
    replace h1 := h1.keep hg; replace h2 := h2.keep hg; replace h3 := h3.keep hg; replace p1 := p1.keep hg; replace l1 := l1.keep hg; replace m1 := m1.keep hg; replace hW := grown_trans hW hg; clear hg
    go_wp2_with fail
    refine (mul_any _ _ _ _ _ _ _ _ _ t1 h2 ht hy (by omega) (by omega)).mono ?_
    rintro e w11 ⟨p11, c11, rfl, t2, hg⟩
    replace h1 := h1.keep hg; replace h2 := h2.keep hg; replace h3 := h3.keep hg; replace p1 := p1.keep hg; replace l1 := l1.keep hg; replace m1 := m1.keep hg; replace t1 := t1.keep hg; replace hW := grown_trans hW hg; clear hg
    go_wp2_with fail
    refine (sameM_true m1 t2 E8.out).mono ?_
    rintro e w12 ⟨rfl, hg⟩
    replace h1 := h1.keep hg; replace h2 := h2.keep hg; replace h3 := h3.keep hg; replace p1 := p1.keep hg; replace l1 := l1.keep hg; replace m1 := m1.keep hg; replace t1 := t1.keep hg; replace t2 := t2.keep hg; replace hW := grown_trans hW hg; clear hg
    go_wp2_with fail
    refine (alive5 _).mono ?_
    rintro e w13 ⟨rfl, hg⟩
    replace h1 := h1.keep hg; replace h2 := h2.keep hg; replace h3 := h3.keep hg; replace p1 := p1.keep hg; replace l1 := l1.keep hg; replace m1 := m1.keep hg; replace t1 := t1.keep hg; replace t2 := t2.keep hg; replace hW := grown_trans hW hg; clear hg
    go_wp2_with fail
    go_ret
    exact ⟨rfl, hW⟩

set_option maxRecDepth 100000 in
theorem monomialBack_lifted (os : Os) (started : os.Started) (H : Type) (enc : TypeId × Value → H) :
    ReturnsInHanded {} Try.checked os 8 .any (Rows.monomialBackSpec.pre6 enc Try.prog Try.f8 Rows.monomialBackRow.domain false) (Rows.monomialBackSpec.post enc Try.prog Try.f8 false true false false) := by
  refine returnsInHanded_of_change (C := Try.checked) own5 started (by kernel_rfl) Try.func8
    (ChangeSpec.witness6 (enc := enc) (C := Try.checked) false ⟨#[], #[.slice none 0 0, .slice none 0 0, .slice none 0 0], []⟩ 8 (by kernel_rfl) (by kernel_rfl) (by kernel_rfl) (by kernel_rfl)) ?_
  intro W base args ds gs before hval0 hW hcnd _
  have hval : ∀ (j : Nat) t v, Try.f8.params[j]? = some t → args[j]? = some v → Value.okWide Try.prog W .any base t v := hval0
  have hW' := hW
  obtain ⟨p, q, hA0, hV, rfl, hfz, hnd⟩ := hW
  have hA : DataW.TrodAll enc Try.prog W 0 (fun _ => true) true Try.f8.params.toList args.toList ds p := hA0
  rw [Try.params8] at hA hval
  obtain ⟨v0, v1, v2, d0, d1, d2, p0, p1, p2, rfl, rfl, rfl, h0, h1, h2⟩ := trodAll_three hA
  obtain ⟨rfl, rfl⟩ := trodVars_none hV
  have hlt : ∀ x ∈ p0 ++ (p1 ++ (p2)), x.block < W.heap.size := fun x hx => hW'.lt x (by simpa using hx)
  obtain ⟨a, n, c, xs, rfl, hr0⟩ := open_mono (hval 0 35 v0 rfl rfl) h0
  obtain ⟨b, m, d, ys, rfl, hr1⟩ := open_mono (hval 1 35 v1 rfl rfl) h1
  obtain ⟨r, l, k, zs, rfl, hr2⟩ := open_mono (hval 2 35 v2 rfl rfl) h2
  refine (monomialBack_walk a b r n m l c d k xs ys zs W hr0 hr1 hr2).mono fun e W' ⟨he, hg⟩ => ?_
  subst he
  have hB := grown_below hg
  exact ⟨_, rfl, _, _, _, [], _, [], hW', trodAll_mk1 (shut_bool Try.underlying4 true),
    trodAll_mk3 (Below.trod laidOut5 readMono rowMono h0 hB fun x hx => hlt x (by simp [hx])) (Below.trod laidOut5 readMono rowMono h1 hB fun x hx => hlt x (by simp [hx])) (Below.trod laidOut5 readMono rowMono h2 hB fun x hx => hlt x (by simp [hx])), rfl, hB.frame _, fun h => by cases h⟩

theorem monomialBack_holds : Rows.MonomialBackSaid :=
  OpenClaim.holds_of_wide 8 Try.f8 rfl rfl rfl rfl rfl rfl rfl ⟨rfl, rfl, rfl, rfl, rfl⟩ rfl rfl rfl rfl rfl (by kernel_rfl) Try.func8 (by kernel_rfl)
    (of_decide_eq_true (by kernel_rfl)) (by unfold Func.isWrapper; first | (rw [if_pos (by decide +kernel)]; kernel_rfl) | (rw [if_neg (by decide +kernel)]; exact ⟨rfl, rfl⟩))
    (fun os started H enc _ => monomialBack_lifted os started H enc)
end Go.Proofs.Ytcmbdnkfihanmaa
