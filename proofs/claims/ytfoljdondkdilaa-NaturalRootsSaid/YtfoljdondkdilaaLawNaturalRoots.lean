/-
  Whatever the arguments are, the Go function NaturalRoots returns true and leaves them as they are. No condition.
-/
import Derived.Test.YtfoljdondkdilaaRoot
import Derived.Test.YtfoljdondkdilaaRefRoot
import Derived.Test.YtfoljdondkdilaaSmallB
import Derived.Test.YtfoljdondkdilaaAliveA
import Derived.Test.YtfoljdondkdilaaOpen
set_option linter.unusedVariables false
set_option linter.unusedSimpArgs false
namespace Go.Proofs.Ytfoljdondkdilaa
open Go.ChangeShapes Go.WideShapes Go.ChangeAt Go.RowKit Nm

set_option maxHeartbeats 4000000 in
theorem naturalRoots_walk (a : Option Addr) (n c A : Nat) (z : Int) (w : World) (hA : IsN w a n c A) (hz : -9223372036854775808 ≤ z ∧ z ≤ 9223372036854775807) :
    Calls Try.prog 5 #[.slice a n c, .int .i64 z] w fun e w' => e = .returned (.bool true) ∧ w.grownBy w' none := by
  have hS := small1_one a n c w
  have hW : w.grownBy w none := grown_refl _ _
  have HZ := hid hz
  clear hz
  by_cases h24 : n ≤ 24
  · have hn := h24
    by_cases k1 : 400 < z
    · by_cases k2 : z ≤ 1048576
      · rw [decide_eq_true h24] at hS
        have HS := hid hS
        clear hS
        go_enter Try.func5, Try.ntmps5
        go_wp2_with fail
        refine HS.out.mono ?_
        rintro e w0 ⟨rfl, hg⟩
        replace hA := hA.keep hg; replace hW := grown_trans hW hg; clear hg
        go_wp2_with fail
        refine (alive1 _).mono ?_
        rintro e w1 ⟨rfl, hg⟩
        replace hA := hA.keep hg; replace hW := grown_trans hW hg; clear hg
        go_wp2_with fail
        go_ret
        exact ⟨rfl, hW⟩
      · have HOUT : Hid (z < -1048576 ∨ 1048576 < z) := hid (by omega)
        have k3 : ¬ z < -400 := by omega
        rw [decide_eq_true h24] at hS
        have HS := hid hS
        clear hS
        go_enter Try.func5, Try.ntmps5
        go_wp2_with fail
        refine HS.out.mono ?_
        rintro e w0 ⟨rfl, hg⟩
        replace hA := hA.keep hg; replace hW := grown_trans hW hg; clear hg
        go_wp2_with fail
        refine (natSqrt_n hA (by omega)).mono ?_
        rintro e w1 ⟨R, p1, n1, c1, q1, m1, d1, rfl, h1, h2, r1, s1, hn1, hm1, hg⟩
        replace hA := hA.keep hg; replace hW := grown_trans hW hg; clear hg
        have H1 := hid (And.intro h1 h2)
        clear h1 h2
        go_wp2_with fail
        refine (refSqrt_n hA (by omega)).mono ?_
        rintro e w2 ⟨R', p2, n2, c2, q2, m2, d2, rfl, h1, h2, r2, s2, hg⟩
        replace hA := hA.keep hg; replace r1 := r1.keep hg; replace s1 := s1.keep hg; replace hW := grown_trans hW hg; clear hg
        have HR : Hid (R = R') := hid (root_unique H1.out.1 H1.out.2 h1 h2)
        have HSS : Hid (A - R * R = A - R' * R') := hid (by rw [HR.out])
        clear h1 h2
        go_wp2_with fail
        refine (same_c r1 r2 HR.out).mono ?_
        rintro e w3 ⟨rfl, hg⟩
        replace hA := hA.keep hg; replace r1 := r1.keep hg; replace s1 := s1.keep hg; replace r2 := r2.keep hg; replace s2 := s2.keep hg; replace hW := grown_trans hW hg; clear hg
        go_wp2_with fail
        refine (same_c s1 s2 HSS.out).mono ?_
        rintro e w4 ⟨rfl, hg⟩
        replace hA := hA.keep hg; replace r1 := r1.keep hg; replace s1 := s1.keep hg; replace r2 := r2.keep hg; replace s2 := s2.keep hg; replace hW := grown_trans hW hg; clear hg
        clear r1
        clear r2
        clear s1
        clear s2
        go_wp2_with fail
        refine (natShift_out z HOUT.out HZ.out).mono ?_
        rintro e wA ⟨rfl, rfl⟩
        go_wp2_with fail
        refine (refShift_out z HOUT.out HZ.out).mono ?_
        rintro e wB ⟨rfl, rfl⟩
        go_wp2_with fail
        refine (same_c (IsC.nil _) (IsC.nil _) rfl).mono ?_
        rintro e w5 ⟨rfl, hg⟩
        replace hA := hA.keep hg; replace hW := grown_trans hW hg; clear hg
        go_wp2_with fail
        refine (alive1 _).mono ?_
        rintro e w6 ⟨rfl, hg⟩
        replace hA := hA.keep hg; replace hW := grown_trans hW hg; clear hg
        go_wp2_with fail
        go_ret
        exact ⟨rfl, hW⟩
    · by_cases k3 : z < -400
      · by_cases k4 : -1048576 ≤ z
        · rw [decide_eq_true h24] at hS
          have HS := hid hS
          clear hS
          go_enter Try.func5, Try.ntmps5
          go_wp2_with fail
          refine HS.out.mono ?_
          rintro e w0 ⟨rfl, hg⟩
          replace hA := hA.keep hg; replace hW := grown_trans hW hg; clear hg
          go_wp2_with fail
          refine (alive1 _).mono ?_
          rintro e w1 ⟨rfl, hg⟩
          replace hA := hA.keep hg; replace hW := grown_trans hW hg; clear hg
          go_wp2_with fail
          go_ret
          exact ⟨rfl, hW⟩
        · have HOUT : Hid (z < -1048576 ∨ 1048576 < z) := hid (by omega)
          rw [decide_eq_true h24] at hS
          have HS := hid hS
          clear hS
          go_enter Try.func5, Try.ntmps5
          go_wp2_with fail
          refine HS.out.mono ?_
          rintro e w0 ⟨rfl, hg⟩
          replace hA := hA.keep hg; replace hW := grown_trans hW hg; clear hg
          go_wp2_with fail
          refine (natSqrt_n hA (by omega)).mono ?_
          rintro e w1 ⟨R, p1, n1, c1, q1, m1, d1, rfl, h1, h2, r1, s1, hn1, hm1, hg⟩
          replace hA := hA.keep hg; replace hW := grown_trans hW hg; clear hg
          have H1 := hid (And.intro h1 h2)
          clear h1 h2
          go_wp2_with fail
          refine (refSqrt_n hA (by omega)).mono ?_
          rintro e w2 ⟨R', p2, n2, c2, q2, m2, d2, rfl, h1, h2, r2, s2, hg⟩
          replace hA := hA.keep hg; replace r1 := r1.keep hg; replace s1 := s1.keep hg; replace hW := grown_trans hW hg; clear hg
          have HR : Hid (R = R') := hid (root_unique H1.out.1 H1.out.2 h1 h2)
          have HSS : Hid (A - R * R = A - R' * R') := hid (by rw [HR.out])
          clear h1 h2
          go_wp2_with fail
          refine (same_c r1 r2 HR.out).mono ?_
          rintro e w3 ⟨rfl, hg⟩
          replace hA := hA.keep hg; replace r1 := r1.keep hg; replace s1 := s1.keep hg; replace r2 := r2.keep hg; replace s2 := s2.keep hg; replace hW := grown_trans hW hg; clear hg
          go_wp2_with fail
          refine (same_c s1 s2 HSS.out).mono ?_
          rintro e w4 ⟨rfl, hg⟩
          replace hA := hA.keep hg; replace r1 := r1.keep hg; replace s1 := s1.keep hg; replace r2 := r2.keep hg; replace s2 := s2.keep hg; replace hW := grown_trans hW hg; clear hg
          clear r1
          clear r2
          clear s1
          clear s2
          go_wp2_with fail
          refine (natShift_out z HOUT.out HZ.out).mono ?_
          rintro e wA ⟨rfl, rfl⟩
          go_wp2_with fail
          refine (refShift_out z HOUT.out HZ.out).mono ?_
          rintro e wB ⟨rfl, rfl⟩
          go_wp2_with fail
          refine (same_c (IsC.nil _) (IsC.nil _) rfl).mono ?_
          rintro e w5 ⟨rfl, hg⟩
          replace hA := hA.keep hg; replace hW := grown_trans hW hg; clear hg
          go_wp2_with fail
          refine (alive1 _).mono ?_
          rintro e w6 ⟨rfl, hg⟩
          replace hA := hA.keep hg; replace hW := grown_trans hW hg; clear hg
          go_wp2_with fail
          go_ret
          exact ⟨rfl, hW⟩
      · by_cases k5 : 0 ≤ z
        · obtain ⟨s, rfl⟩ : ∃ s : Nat, z = (s : Int) := ⟨z.toNat, by omega⟩
          rw [decide_eq_true h24] at hS
          have HS := hid hS
          clear hS
          go_enter Try.func5, Try.ntmps5
          go_wp2_with fail
          refine HS.out.mono ?_
          rintro e w0 ⟨rfl, hg⟩
          replace hA := hA.keep hg; replace hW := grown_trans hW hg; clear hg
          go_wp2_with fail
          refine (natSqrt_n hA (by omega)).mono ?_
          rintro e w1 ⟨R, p1, n1, c1, q1, m1, d1, rfl, h1, h2, r1, s1, hn1, hm1, hg⟩
          replace hA := hA.keep hg; replace hW := grown_trans hW hg; clear hg
          have H1 := hid (And.intro h1 h2)
          clear h1 h2
          go_wp2_with fail
          refine (refSqrt_n hA (by omega)).mono ?_
          rintro e w2 ⟨R', p2, n2, c2, q2, m2, d2, rfl, h1, h2, r2, s2, hg⟩
          replace hA := hA.keep hg; replace r1 := r1.keep hg; replace s1 := s1.keep hg; replace hW := grown_trans hW hg; clear hg
          have HR : Hid (R = R') := hid (root_unique H1.out.1 H1.out.2 h1 h2)
          have HSS : Hid (A - R * R = A - R' * R') := hid (by rw [HR.out])
          clear h1 h2
          go_wp2_with fail
          refine (same_c r1 r2 HR.out).mono ?_
          rintro e w3 ⟨rfl, hg⟩
          replace hA := hA.keep hg; replace r1 := r1.keep hg; replace s1 := s1.keep hg; replace r2 := r2.keep hg; replace s2 := s2.keep hg; replace hW := grown_trans hW hg; clear hg
          go_wp2_with fail
          refine (same_c s1 s2 HSS.out).mono ?_
          rintro e w4 ⟨rfl, hg⟩
          replace hA := hA.keep hg; replace r1 := r1.keep hg; replace s1 := s1.keep hg; replace r2 := r2.keep hg; replace s2 := s2.keep hg; replace hW := grown_trans hW hg; clear hg
          clear r1
          clear r2
          clear s1
          clear s2
          go_wp2_with fail
          refine (natShift_up s hA (by omega) (by omega)).mono ?_
          rintro e w5 ⟨p5, n5, c5, rfl, u1, hn5, hg⟩
          replace hA := hA.keep hg; replace hW := grown_trans hW hg; clear hg
          go_wp2_with fail
          refine (refShift_up s hA (by omega) (by omega)).mono ?_
          rintro e w6 ⟨p6, n6, c6, rfl, u2, hg⟩
          replace hA := hA.keep hg; replace u1 := u1.keep hg; replace hW := grown_trans hW hg; clear hg
          go_wp2_with fail
          refine (same_c u1 u2 rfl).mono ?_
          rintro e w7 ⟨rfl, hg⟩
          replace hA := hA.keep hg; replace u1 := u1.keep hg; replace u2 := u2.keep hg; replace hW := grown_trans hW hg; clear hg
          go_wp2_with fail
          refine (alive1 _).mono ?_
          rintro e w8 ⟨rfl, hg⟩
          replace hA := hA.keep hg; replace u1 := u1.keep hg; replace u2 := u2.keep hg; replace hW := grown_trans hW hg; clear hg
          go_wp2_with fail
          go_ret
          exact ⟨rfl, hW⟩
        · obtain ⟨s, hsz⟩ : ∃ s : Nat, z = -(s : Int) := ⟨(-z).toNat, by omega⟩
          have hs0 : 1 ≤ s := by omega
          have hs1 : s ≤ 400 := by omega
          have HSZ := hid hsz
          clear hsz
          rw [decide_eq_true h24] at hS
          have HS := hid hS
          clear hS
          go_enter Try.func5, Try.ntmps5
          go_wp2_with fail
          refine HS.out.mono ?_
          rintro e w0 ⟨rfl, hg⟩
          replace hA := hA.keep hg; replace hW := grown_trans hW hg; clear hg
          go_wp2_with fail
          refine (natSqrt_n hA (by omega)).mono ?_
          rintro e w1 ⟨R, p1, n1, c1, q1, m1, d1, rfl, h1, h2, r1, s1, hn1, hm1, hg⟩
          replace hA := hA.keep hg; replace hW := grown_trans hW hg; clear hg
          have H1 := hid (And.intro h1 h2)
          clear h1 h2
          go_wp2_with fail
          refine (refSqrt_n hA (by omega)).mono ?_
          rintro e w2 ⟨R', p2, n2, c2, q2, m2, d2, rfl, h1, h2, r2, s2, hg⟩
          replace hA := hA.keep hg; replace r1 := r1.keep hg; replace s1 := s1.keep hg; replace hW := grown_trans hW hg; clear hg
          have HR : Hid (R = R') := hid (root_unique H1.out.1 H1.out.2 h1 h2)
          have HSS : Hid (A - R * R = A - R' * R') := hid (by rw [HR.out])
          clear h1 h2
          go_wp2_with fail
          refine (same_c r1 r2 HR.out).mono ?_
          rintro e w3 ⟨rfl, hg⟩
          replace hA := hA.keep hg; replace r1 := r1.keep hg; replace s1 := s1.keep hg; replace r2 := r2.keep hg; replace s2 := s2.keep hg; replace hW := grown_trans hW hg; clear hg
          go_wp2_with fail
          refine (same_c s1 s2 HSS.out).mono ?_
          rintro e w4 ⟨rfl, hg⟩
          replace hA := hA.keep hg; replace r1 := r1.keep hg; replace s1 := s1.keep hg; replace r2 := r2.keep hg; replace s2 := s2.keep hg; replace hW := grown_trans hW hg; clear hg
          clear r1
          clear r2
          clear s1
          clear s2
          go_wp2_with fail
          refine (natShift_down s z HSZ.out hA (by omega) (by omega) (by omega)).mono ?_
          rintro e w5 ⟨p5, n5, c5, rfl, u1, hn5, hg⟩
          replace hA := hA.keep hg; replace hW := grown_trans hW hg; clear hg
          go_wp2_with fail
          refine (refShift_down s z HSZ.out hA (by omega) (by omega) (by omega)).mono ?_
          rintro e w6 ⟨p6, n6, c6, rfl, u2, hg⟩
          replace hA := hA.keep hg; replace u1 := u1.keep hg; replace hW := grown_trans hW hg; clear hg
          go_wp2_with fail
          refine (same_c u1 u2 rfl).mono ?_
          rintro e w7 ⟨rfl, hg⟩
          replace hA := hA.keep hg; replace u1 := u1.keep hg; replace u2 := u2.keep hg; replace hW := grown_trans hW hg; clear hg
          go_wp2_with fail
          refine (alive1 _).mono ?_
          rintro e w8 ⟨rfl, hg⟩
          replace hA := hA.keep hg; replace u1 := u1.keep hg; replace u2 := u2.keep hg; replace hW := grown_trans hW hg; clear hg
          go_wp2_with fail
          go_ret
          exact ⟨rfl, hW⟩
  · rw [decide_eq_false h24] at hS
    have HS := hid hS
    clear hS
    go_enter Try.func5, Try.ntmps5
    go_wp2_with fail
    refine HS.out.mono ?_
    rintro e w0 ⟨rfl, hg⟩
    replace hA := hA.keep hg; replace hW := grown_trans hW hg; clear hg
    go_wp2_with fail
    refine (alive1 _).mono ?_
    rintro e w1 ⟨rfl, hg⟩
    replace hA := hA.keep hg; replace hW := grown_trans hW hg; clear hg
    go_wp2_with fail
    go_ret
    exact ⟨rfl, hW⟩

set_option maxRecDepth 100000 in
theorem naturalRoots_lifted (os : Os) (started : os.Started) (H : Type) (enc : TypeId × Value → H) :
    ReturnsInHanded {} Try.checked os 5 .any (Rows.naturalRootsSpec.pre6 enc Try.prog Try.f5 Rows.naturalRootsRow.domain false) (Rows.naturalRootsSpec.post enc Try.prog Try.f5 false true false false) := by
  refine returnsInHanded_of_change (C := Try.checked) own1 started (by kernel_rfl) Try.func5
    (ChangeSpec.witness6 (enc := enc) (C := Try.checked) false ⟨#[], #[.slice none 0 0, .int .i64 0], []⟩ 8 (by kernel_rfl) (by kernel_rfl) (by kernel_rfl) (by kernel_rfl)) ?_
  intro W base args ds gs before hval0 hW hcnd _
  have hval : ∀ (j : Nat) t v, Try.f5.params[j]? = some t → args[j]? = some v → Value.okWide Try.prog W .any base t v := hval0
  have hW' := hW
  obtain ⟨p, q, hA0, hV, rfl, hfz, hnd⟩ := hW
  have hA : DataW.TrodAll enc Try.prog W 0 (fun _ => true) true Try.f5.params.toList args.toList ds p := hA0
  rw [Try.params5] at hA hval
  obtain ⟨v0, v1, d0, d1, p0, p1, rfl, rfl, rfl, h0, h1⟩ := trodAll_two hA
  obtain ⟨rfl, rfl⟩ := trodVars_none hV
  have hlt : ∀ x ∈ p0 ++ (p1), x.block < W.heap.size := fun x hx => hW'.lt x (by simpa using hx)
  obtain ⟨a, n, c, xs, rfl, hr0, hx0⟩ := open_nat (hval 0 23 v0 rfl rfl) h0
  obtain ⟨z1, rfl, rfl, rfl, wz1⟩ := open_int Try.underlying3 (hval 1 3 v1 rfl rfl) h1
  refine (naturalRoots_walk a n c _ z1 W (IsN.of hr0 hx0) (bounds_i64 wz1)).mono fun e W' ⟨he, hg⟩ => ?_
  subst he
  have hB := grown_below hg
  exact ⟨_, rfl, _, _, _, [], _, [], hW', trodAll_mk1 (shut_bool Try.underlying4 true),
    trodAll_mk2 (Below.trod laidOut1 readNat rowNat h0 hB fun x hx => hlt x (by simp [hx])) (shut_int Try.underlying3 wz1), rfl, hB.frame _, fun h => by cases h⟩

theorem naturalRoots_holds : Rows.NaturalRootsSaid :=
  OpenClaim.holds_of_wide 5 Try.f5 rfl rfl rfl rfl rfl rfl rfl ⟨rfl, rfl, rfl, rfl, rfl⟩ rfl rfl rfl rfl rfl (by kernel_rfl) Try.func5 (by kernel_rfl)
    (of_decide_eq_true (by kernel_rfl)) (by unfold Func.isWrapper; first | (rw [if_pos (by decide +kernel)]; kernel_rfl) | (rw [if_neg (by decide +kernel)]; exact ⟨rfl, rfl⟩))
    (fun os started H enc _ => naturalRoots_lifted os started H enc)

end Go.Proofs.Ytfoljdondkdilaa
