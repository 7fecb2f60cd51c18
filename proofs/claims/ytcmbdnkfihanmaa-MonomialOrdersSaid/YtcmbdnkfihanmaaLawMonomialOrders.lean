/-
  Whatever the arguments are, the Go function MonomialOrders returns true and leaves them as they are. No condition.
-/
import Derived.Test.YtcmbdnkfihanmaaMonoI
import Derived.Test.YtcmbdnkfihanmaaMonoR
set_option linter.unusedVariables false
set_option linter.unusedSimpArgs false
namespace Go.Proofs.Ytcmbdnkfihanmaa
open Go.ChangeShapes Go.WideShapes Go.ChangeAt Go.RowKit Nm

theorem ord_is {a b : Option Addr} {n m c d : Nat} {xs ys : List Int} {o : Int} {w : World} (h : ZRd w .i64 a n c xs) (k : ZRd w .i64 b m d ys) {B C : Int} (hx : RightZ B xs) (hy : RightZ C ys) (hB : 0 ≤ B ∧ B ≤ 4294967296) (hC : 0 ≤ C ∧ C ≤ 4294967296) {z : Int} (e : ordZ o xs ys = z) :
    Calls Try.prog 42 #[.slice a n c, .slice b m d, .int .i64 o] w fun e w' => e = .returned (.int .i64 z) ∧ w = w' := by
  have := cmpM_any a b n m c d xs ys o w h k hx hy hB hC
  rwa [e] at this
/-- what one order promises for three monomials -/
structure OrdFacts (o : Int) (xs ys zs : List Int) (z u v t : Int) : Prop where
  ab : ordZ o xs ys = z
  ba : ordZ o ys xs = -z
  bc : ordZ o ys zs = u
  ac : ordZ o xs zs = v
  na : ordZ o [] xs = t
  mul : ordZ o (mulZ xs zs) (mulZ ys zs) = z
  same : decide (xs = ys) = ((z : Int) == 0)
  low : t ≤ 0
  trans : z ≤ 0 → u ≤ 0 → v ≤ 0
  bound : -1 ≤ z ∧ z ≤ 1
theorem ordFacts (o : Int) {B : Int} {xs ys zs : List Int} (hx : RightZ B xs) (hy : RightZ B ys) (hB : 0 ≤ B) : ∃ z u v t, OrdFacts o xs ys zs z u v t :=
  ⟨_, _, _, _, rfl, ordZ_neg o xs ys, rfl, rfl, rfl, ordZ_mul o xs ys zs, by
    rw [Bool.eq_iff_iff, decide_eq_true_iff, ← ordZ_zero o hx.last hy.last]; simp, ordZ_nil o hx hB, fun h1 h2 => ordZ_trans o h1 h2, ordZ_bound o xs ys⟩
set_option maxRecDepth 100000 in
set_option maxHeartbeats 4000000 in
theorem monomialOrders_walk (a b r : Option Addr) (n m l c d k : Nat) (xs ys zs : List Int) (w : World) (h1 : ZRd w .i64 a n c xs) (h2 : ZRd w .i64 b m d ys) (h3 : ZRd w .i64 r l k zs) :
    Calls Try.prog 9 #[.slice a n c, .slice b m d, .slice r l k] w fun e w' => e = .returned (.bool true) ∧ w.grownBy w' none := by
  have S3 := right5_three a b r n m l c d k xs ys zs w h1 h2 h3
  have hW : w.grownBy w none := grown_refl _ _
  by_cases hr : RightZ 262144 xs ∧ RightZ 262144 ys ∧ RightZ 262144 zs
  rotate_left
  · rw [decide_eq_false hr] at S3
    have HS := hid S3
    clear S3
    go_enter Try.func9, Try.ntmps9
    go_wp2_with fail
    refine (HS.out).mono ?_
    rintro e w1 ⟨rfl, hg1⟩
    go_wp2_with fail
    refine (alive5 _).mono ?_
    rintro e w2 ⟨rfl, hg2⟩
    go_wp2_with fail
    go_ret
    exact ⟨rfl, grown_trans hg1 hg2⟩
  rw [decide_eq_true hr] at S3
  have HS := hid S3
  clear S3
  obtain ⟨hx, hy, hz⟩ := hr
  have hp : RightZ 524288 (mulZ xs zs) := mulZ_right hx hz (by omega) (by omega) (by omega)
  have hq : RightZ 524288 (mulZ ys zs) := mulZ_right hy hz (by omega) (by omega) (by omega)
  have HF := hid (fun o => ordFacts o (zs := zs) hx hy (by omega))
  go_enter Try.func9, Try.ntmps9
  go_wp2_with fail
  refine (HS.out).mono ?_
  rintro e w1 ⟨rfl, hg⟩
  replace h1 := h1.keep hg; replace h2 := h2.keep hg; replace h3 := h3.keep hg; replace hW := grown_trans hW hg; clear hg
  go_wp2
  have HW := hid hW
  go_loopw [7] (fun i wr => ∃ j : Nat, j ≤ 2 ∧ i = .int .i64 j ∧ ZRd wr .i64 a n c xs ∧ ZRd wr .i64 b m d ys ∧ ZRd wr .i64 r l k zs ∧ w.grownBy wr none) (fun i _ => 2 - (intOf i).toNat)
  case atStart => exact ⟨0, by omega, rfl, h1, h2, h3, HW.out⟩
  clear h1 h2 h3 hW HW
  case round =>
    obtain ⟨j, hj, rfl, h1, h2, h3, hW⟩ := hrel
    by_cases hlt : j < 2
    · have hji : (j : Int) < 2 := by omega
      obtain ⟨z, u, v, t, HO⟩ := HF.out (j : Int)
      have hb1 := HO.bound.1
      have hb2 := HO.bound.2
      have ht : ¬ 0 < t := by have := HO.low; omega
      have hs : ((z : Int) == 0) = decide (xs = ys) := HO.same.symm
      have HO := hid HO
      have HSAME := hid hs
      clear hs
      have HN : Hid (∀ W : World, ZRd W .i64 none 0 0 []) := hid fun W => ZRd.nil W .i64
      go_wp2_with fail
      refine (ord_is h1 h2 hx hy (by omega) (by omega) HO.out.ab).mono ?_
      rintro e w' ⟨rfl, rfl⟩
      go_wp2_with fail
      refine (ord_is h2 h1 hy hx (by omega) (by omega) HO.out.ba).mono ?_
      rintro e w' ⟨rfl, rfl⟩
      have S0 := sameM_any _ _ _ _ _ _ _ _ _ h1 h2
      rw [← HSAME.out] at S0
      have hzz : ((z : Int) != z) = false := by simp
      have S1 := hid S0
      clear S0
      go_wp2_with fail
      refine (S1.out).mono ?_
      rintro e w1 ⟨rfl, hg⟩
      replace h1 := h1.keep hg; replace h2 := h2.keep hg; replace h3 := h3.keep hg; replace hW := grown_trans hW hg; clear hg
      go_wp2_with fail
      refine (ord_is (HN.out _) h1 (RightZ.nil (B := 262144)) hx (by omega) (by omega) HO.out.na).mono ?_
      rintro e w' ⟨rfl, rfl⟩
      go_wp2_with fail
      refine (mul_any _ _ _ _ _ _ _ _ _ h1 h3 hx hz (by omega) (by omega)).mono ?_
      rintro e w2 ⟨p2, c2, rfl, p1, hg⟩
      replace h1 := h1.keep hg; replace h2 := h2.keep hg; replace h3 := h3.keep hg; replace hW := grown_trans hW hg; clear hg
      go_wp2_with fail
      refine (mul_any _ _ _ _ _ _ _ _ _ h2 h3 hy hz (by omega) (by omega)).mono ?_
      rintro e w3 ⟨p3, c3, rfl, p2, hg⟩
      replace h1 := h1.keep hg; replace h2 := h2.keep hg; replace h3 := h3.keep hg; replace p1 := p1.keep hg; replace hW := grown_trans hW hg; clear hg
      go_wp2_with fail
      refine (ord_is p1 p2 hp hq (by omega) (by omega) HO.out.mul).mono ?_
      rintro e w' ⟨rfl, rfl⟩
      clear p1
      clear p2
      by_cases z0 : z ≤ 0
      · by_cases u0 : u ≤ 0
        · have v0 : ¬ 0 < v := by have := HO.out.trans z0 u0; omega
          go_wp2_with fail
          refine (ord_is h2 h3 hy hz (by omega) (by omega) HO.out.bc).mono ?_
          rintro e w' ⟨rfl, rfl⟩
          go_wp2_with fail
          refine (ord_is h1 h3 hx hz (by omega) (by omega) HO.out.ac).mono ?_
          rintro e w' ⟨rfl, rfl⟩
          go_wp2
          exact ⟨⟨j + 1, by omega, rfl, h1, h2, h3, hW⟩, by simp [intOf]; omega⟩
        · go_wp2_with fail
          refine (ord_is h2 h3 hy hz (by omega) (by omega) HO.out.bc).mono ?_
          rintro e w' ⟨rfl, rfl⟩
          go_wp2
          exact ⟨⟨j + 1, by omega, rfl, h1, h2, h3, hW⟩, by simp [intOf]; omega⟩
      · go_wp2
        exact ⟨⟨j + 1, by omega, rfl, h1, h2, h3, hW⟩, by simp [intOf]; omega⟩
    · obtain rfl : j = 2 := by omega
      go_wp2_with fail
      refine (alive5 _).mono ?_
      rintro e w9 ⟨rfl, hg⟩
      replace hW := grown_trans hW hg
      go_wp2_with fail
      go_ret
      exact ⟨rfl, hW⟩

set_option maxRecDepth 100000 in
theorem monomialOrders_lifted (os : Os) (started : os.Started) (H : Type) (enc : TypeId × Value → H) :
    ReturnsInHanded {} Try.checked os 9 .any (Rows.monomialOrdersSpec.pre6 enc Try.prog Try.f9 Rows.monomialOrdersRow.domain false) (Rows.monomialOrdersSpec.post enc Try.prog Try.f9 false true false false) := by
  refine returnsInHanded_of_change (C := Try.checked) own5 started (by kernel_rfl) Try.func9
    (ChangeSpec.witness6 (enc := enc) (C := Try.checked) false ⟨#[], #[.slice none 0 0, .slice none 0 0, .slice none 0 0], []⟩ 8 (by kernel_rfl) (by kernel_rfl) (by kernel_rfl) (by kernel_rfl)) ?_
  intro W base args ds gs before hval0 hW hcnd _
  have hval : ∀ (j : Nat) t v, Try.f9.params[j]? = some t → args[j]? = some v → Value.okWide Try.prog W .any base t v := hval0
  have hW' := hW
  obtain ⟨p, q, hA0, hV, rfl, hfz, hnd⟩ := hW
  have hA : DataW.TrodAll enc Try.prog W 0 (fun _ => true) true Try.f9.params.toList args.toList ds p := hA0
  rw [Try.params9] at hA hval
  obtain ⟨v0, v1, v2, d0, d1, d2, p0, p1, p2, rfl, rfl, rfl, h0, h1, h2⟩ := trodAll_three hA
  obtain ⟨rfl, rfl⟩ := trodVars_none hV
  have hlt : ∀ x ∈ p0 ++ (p1 ++ (p2)), x.block < W.heap.size := fun x hx => hW'.lt x (by simpa using hx)
  obtain ⟨a, n, c, xs, rfl, hr0⟩ := open_mono (hval 0 35 v0 rfl rfl) h0
  obtain ⟨b, m, d, ys, rfl, hr1⟩ := open_mono (hval 1 35 v1 rfl rfl) h1
  obtain ⟨r, l, k, zs, rfl, hr2⟩ := open_mono (hval 2 35 v2 rfl rfl) h2
  refine (monomialOrders_walk a b r n m l c d k xs ys zs W hr0 hr1 hr2).mono fun e W' ⟨he, hg⟩ => ?_
  subst he
  have hB := grown_below hg
  exact ⟨_, rfl, _, _, _, [], _, [], hW', trodAll_mk1 (shut_bool Try.underlying4 true),
    trodAll_mk3 (Below.trod laidOut5 readMono rowMono h0 hB fun x hx => hlt x (by simp [hx])) (Below.trod laidOut5 readMono rowMono h1 hB fun x hx => hlt x (by simp [hx])) (Below.trod laidOut5 readMono rowMono h2 hB fun x hx => hlt x (by simp [hx])), rfl, hB.frame _, fun h => by cases h⟩

theorem monomialOrders_holds : Rows.MonomialOrdersSaid :=
  OpenClaim.holds_of_wide 9 Try.f9 rfl rfl rfl rfl rfl rfl rfl ⟨rfl, rfl, rfl, rfl, rfl⟩ rfl rfl rfl rfl rfl (by kernel_rfl) Try.func9 (by kernel_rfl)
    (of_decide_eq_true (by kernel_rfl)) (by unfold Func.isWrapper; first | (rw [if_pos (by decide +kernel)]; kernel_rfl) | (rw [if_neg (by decide +kernel)]; exact ⟨rfl, rfl⟩))
    (fun os started H enc _ => monomialOrders_lifted os started H enc)
end Go.Proofs.Ytcmbdnkfihanmaa
