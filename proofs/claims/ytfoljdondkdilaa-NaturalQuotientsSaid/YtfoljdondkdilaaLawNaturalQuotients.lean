/-
  Whatever the arguments are, the Go function NaturalQuotients returns true and leaves them as they are. No condition.
-/
import Derived.Test.YtfoljdondkdilaaDivN
import Derived.Test.YtfoljdondkdilaaSmallB
import Derived.Test.YtfoljdondkdilaaAliveA
import Derived.Test.YtfoljdondkdilaaOpen
set_option linter.unusedVariables false
set_option linter.unusedSimpArgs false
namespace Go.Proofs.Ytfoljdondkdilaa
open Go.ChangeShapes Go.WideShapes Go.ChangeAt Go.RowKit Nm

theorem cmp_ge {x y : Nat} (h : y ≤ x) : ∃ s : Int, cmpI x y = s ∧ 0 ≤ s := by
  rcases Nat.lt_or_ge y x with h1 | h1
  · exact ⟨1, cmpI_gt h1, by omega⟩
  · obtain rfl : x = y := by omega
    exact ⟨0, cmpI_eq _, by omega⟩

set_option maxHeartbeats 4000000 in
theorem naturalQuotients_walk (a b r : Option Addr) (n c m d l k A B C : Nat) (w : World) (hA : IsN w a n c A) (hB : IsN w b m d B) (hC : IsN w r l k C) :
    Calls Try.prog 7 #[.slice a n c, .slice b m d, .slice r l k] w fun e w' => e = .returned (.bool true) ∧ w.grownBy w' none := by
  have hS := small1_three a b r n c m d l k w
  have hW : w.grownBy w none := grown_refl _ _
  by_cases h24 : n ≤ 24 ∧ m ≤ 24 ∧ l ≤ 24
  · by_cases hB0 : B = 0
    · subst hB0
      have H0 : Hid (cmpI ((0 : Nat) : Int) ((0 : Nat) : Int) = 0) := hid (cmpI_eq _)
      rw [decide_eq_true h24] at hS
      have HS := hid hS
      clear hS
      go_enter Try.func7, Try.ntmps7
      go_wp2_with fail
      refine HS.out.mono ?_
      rintro e w0 ⟨rfl, hg⟩
      replace hA := hA.keep hg; replace hB := hB.keep hg; replace hC := hC.keep hg; replace hW := grown_trans hW hg; clear hg
      go_wp2_with fail
      refine (natCmp_n hB (IsC.nil _).isN).mono ?_
      rw [H0.out]
      rintro e w1 ⟨rfl, hg⟩
      replace hA := hA.keep hg; replace hB := hB.keep hg; replace hC := hC.keep hg; replace hW := grown_trans hW hg; clear hg
      go_wp2_with fail
      refine (natDivMod_e hA (IsC.nil _).isN).mono ?_
      rintro e w2 ⟨rfl, hg⟩
      replace hA := hA.keep hg; replace hB := hB.keep hg; replace hC := hC.keep hg; replace hW := grown_trans hW hg; clear hg
      go_wp2_with fail
      refine (alive1 _).mono ?_
      rintro e w3 ⟨rfl, hg⟩
      replace hA := hA.keep hg; replace hB := hB.keep hg; replace hC := hC.keep hg; replace hW := grown_trans hW hg; clear hg
      go_wp2_with fail
      go_ret
      exact ⟨rfl, hW⟩
    · have hpos : 0 < B := by omega
      have H0 : Hid (cmpI (B : Int) ((0 : Nat) : Int) = 1) := hid (cmpI_gt hpos)
      have H1 : Hid (cmpI ((A % B : Nat) : Int) (B : Int) = -1) := hid (cmpI_lt (Nat.mod_lt _ hpos))
      have HE : Hid (A / B * B + A % B = A) := hid (Nat.div_add_mod' _ _)
      have h24' := h24
      obtain ⟨hn, hm, hl⟩ := h24'
      rw [decide_eq_true h24] at hS
      have HS := hid hS
      clear hS
      go_enter Try.func7, Try.ntmps7
      go_wp2_with fail
      refine HS.out.mono ?_
      rintro e w0 ⟨rfl, hg⟩
      replace hA := hA.keep hg; replace hB := hB.keep hg; replace hC := hC.keep hg; replace hW := grown_trans hW hg; clear hg
      go_wp2_with fail
      refine (natCmp_n hB (IsC.nil _).isN).mono ?_
      rw [H0.out]
      rintro e w1 ⟨rfl, hg⟩
      replace hA := hA.keep hg; replace hB := hB.keep hg; replace hC := hC.keep hg; replace hW := grown_trans hW hg; clear hg
      go_wp2_with fail
      refine (natDivMod_n hA hB (by omega) (by omega) hpos).mono ?_
      rintro e w2 ⟨p2, n2, c2, u2, v2, z2, rfl, q1, r1, hn2, hm2, hmm2, hg⟩
      replace hA := hA.keep hg; replace hB := hB.keep hg; replace hC := hC.keep hg; replace hW := grown_trans hW hg; clear hg
      go_wp2_with fail
      refine (natCmp_n r1.isN hB).mono ?_
      rw [H1.out]
      rintro e w3 ⟨rfl, hg⟩
      replace hA := hA.keep hg; replace hB := hB.keep hg; replace hC := hC.keep hg; replace q1 := q1.keep hg; replace r1 := r1.keep hg; replace hW := grown_trans hW hg; clear hg
      go_wp2_with fail
      refine (natMul_n q1.isN hB (by omega) (by omega)).mono ?_
      rintro e w4 ⟨p4, n4, c4, rfl, m1, hn4, hg⟩
      replace hA := hA.keep hg; replace hB := hB.keep hg; replace hC := hC.keep hg; replace q1 := q1.keep hg; replace r1 := r1.keep hg; replace hW := grown_trans hW hg; clear hg
      go_wp2_with fail
      refine (natAdd_n m1.isN r1.isN (by omega) (by omega)).mono ?_
      rintro e w5 ⟨p5, n5, c5, rfl, s1, hn5, hg⟩
      replace hA := hA.keep hg; replace hB := hB.keep hg; replace hC := hC.keep hg; replace q1 := q1.keep hg; replace r1 := r1.keep hg; replace m1 := m1.keep hg; replace hW := grown_trans hW hg; clear hg
      go_wp2_with fail
      refine (natNorm_n hA (by omega)).mono ?_
      rintro e w6 ⟨p6, n6, c6, rfl, t1, hn6, hg⟩
      replace hA := hA.keep hg; replace hB := hB.keep hg; replace hC := hC.keep hg; replace q1 := q1.keep hg; replace r1 := r1.keep hg; replace m1 := m1.keep hg; replace s1 := s1.keep hg; replace hW := grown_trans hW hg; clear hg
      go_wp2_with fail
      refine (same_c s1 t1 HE.out).mono ?_
      rintro e w7 ⟨rfl, hg⟩
      replace hA := hA.keep hg; replace hB := hB.keep hg; replace hC := hC.keep hg; replace q1 := q1.keep hg; replace r1 := r1.keep hg; replace m1 := m1.keep hg; replace s1 := s1.keep hg; replace t1 := t1.keep hg; replace hW := grown_trans hW hg; clear hg
      clear q1
      clear r1
      clear m1
      clear s1
      by_cases hCB : C < B
      · have H2 : Hid (cmpI (C : Int) (B : Int) = -1) := hid (cmpI_lt hCB)
        have HX : Hid ((A * B + C) / B = A) := hid (by rw [Nat.mul_comm, Nat.mul_add_div hpos, Nat.div_eq_of_lt hCB, Nat.add_zero])
        have HY : Hid ((A * B + C) % B = C) := hid (by rw [Nat.mul_comm, Nat.mul_add_mod, Nat.mod_eq_of_lt hCB])
        go_wp2_with fail
        refine (natCmp_n hC hB).mono ?_
        rw [H2.out]
        rintro e w8 ⟨rfl, hg⟩
        replace hA := hA.keep hg; replace hB := hB.keep hg; replace hC := hC.keep hg; replace t1 := t1.keep hg; replace hW := grown_trans hW hg; clear hg
        go_wp2_with fail
        refine (natMul_n hA hB (by omega) (by omega)).mono ?_
        rintro e w9 ⟨p9, n9, c9, rfl, m2, hn9, hg⟩
        replace hA := hA.keep hg; replace hB := hB.keep hg; replace hC := hC.keep hg; replace t1 := t1.keep hg; replace hW := grown_trans hW hg; clear hg
        go_wp2_with fail
        refine (natAdd_n m2.isN hC (by omega) (by omega)).mono ?_
        rintro e w10 ⟨p10, n10, c10, rfl, s2, hn10, hg⟩
        replace hA := hA.keep hg; replace hB := hB.keep hg; replace hC := hC.keep hg; replace t1 := t1.keep hg; replace m2 := m2.keep hg; replace hW := grown_trans hW hg; clear hg
        go_wp2_with fail
        refine (natDivMod_n s2.isN hB (by omega) (by omega) hpos).mono ?_
        rintro e w11 ⟨p11, n11, c11, u11, v11, z11, rfl, x1, y1, hn11, hm11, hmm11, hg⟩
        replace hA := hA.keep hg; replace hB := hB.keep hg; replace hC := hC.keep hg; replace t1 := t1.keep hg; replace m2 := m2.keep hg; replace s2 := s2.keep hg; replace hW := grown_trans hW hg; clear hg
        go_wp2_with fail
        refine (natNorm_n hA (by omega)).mono ?_
        rintro e w12 ⟨p12, n12, c12, rfl, t2, hn12, hg⟩
        replace hA := hA.keep hg; replace hB := hB.keep hg; replace hC := hC.keep hg; replace t1 := t1.keep hg; replace m2 := m2.keep hg; replace s2 := s2.keep hg; replace x1 := x1.keep hg; replace y1 := y1.keep hg; replace hW := grown_trans hW hg; clear hg
        go_wp2_with fail
        refine (same_c x1 t2 HX.out).mono ?_
        rintro e w13 ⟨rfl, hg⟩
        replace hA := hA.keep hg; replace hB := hB.keep hg; replace hC := hC.keep hg; replace t1 := t1.keep hg; replace m2 := m2.keep hg; replace s2 := s2.keep hg; replace x1 := x1.keep hg; replace y1 := y1.keep hg; replace t2 := t2.keep hg; replace hW := grown_trans hW hg; clear hg
        go_wp2_with fail
        refine (natNorm_n hC (by omega)).mono ?_
        rintro e w14 ⟨p14, n14, c14, rfl, t3, hn14, hg⟩
        replace hA := hA.keep hg; replace hB := hB.keep hg; replace hC := hC.keep hg; replace t1 := t1.keep hg; replace m2 := m2.keep hg; replace s2 := s2.keep hg; replace x1 := x1.keep hg; replace y1 := y1.keep hg; replace t2 := t2.keep hg; replace hW := grown_trans hW hg; clear hg
        go_wp2_with fail
        refine (same_c y1 t3 HY.out).mono ?_
        rintro e w15 ⟨rfl, hg⟩
        replace hA := hA.keep hg; replace hB := hB.keep hg; replace hC := hC.keep hg; replace t1 := t1.keep hg; replace m2 := m2.keep hg; replace s2 := s2.keep hg; replace x1 := x1.keep hg; replace y1 := y1.keep hg; replace t2 := t2.keep hg; replace t3 := t3.keep hg; replace hW := grown_trans hW hg; clear hg
        go_wp2_with fail
        refine (alive1 _).mono ?_
        rintro e w16 ⟨rfl, hg⟩
        replace hA := hA.keep hg; replace hB := hB.keep hg; replace hC := hC.keep hg; replace t1 := t1.keep hg; replace m2 := m2.keep hg; replace s2 := s2.keep hg; replace x1 := x1.keep hg; replace y1 := y1.keep hg; replace t2 := t2.keep hg; replace t3 := t3.keep hg; replace hW := grown_trans hW hg; clear hg
        go_wp2_with fail
        go_ret
        exact ⟨rfl, hW⟩
      · obtain ⟨s, hs, hs0⟩ := cmp_ge (x := C) (y := B) (by omega)
        have H2 := hid hs
        clear hs
        go_wp2_with fail
        refine (natCmp_n hC hB).mono ?_
        rw [H2.out]
        rintro e w8 ⟨rfl, hg⟩
        replace hA := hA.keep hg; replace hB := hB.keep hg; replace hC := hC.keep hg; replace t1 := t1.keep hg; replace hW := grown_trans hW hg; clear hg
        go_wp2_with fail
        refine (alive1 _).mono ?_
        rintro e w9 ⟨rfl, hg⟩
        replace hA := hA.keep hg; replace hB := hB.keep hg; replace hC := hC.keep hg; replace t1 := t1.keep hg; replace hW := grown_trans hW hg; clear hg
        go_wp2_with fail
        go_ret
        exact ⟨rfl, hW⟩
  · rw [decide_eq_false h24] at hS
    have HS := hid hS
    clear hS
    go_enter Try.func7, Try.ntmps7
    go_wp2_with fail
    refine HS.out.mono ?_
    rintro e w0 ⟨rfl, hg⟩
    replace hA := hA.keep hg; replace hB := hB.keep hg; replace hC := hC.keep hg; replace hW := grown_trans hW hg; clear hg
    go_wp2_with fail
    refine (natDivMod_e hA (IsC.nil _).isN).mono ?_
    rintro e w1 ⟨rfl, hg⟩
    replace hA := hA.keep hg; replace hB := hB.keep hg; replace hC := hC.keep hg; replace hW := grown_trans hW hg; clear hg
    go_wp2_with fail
    refine (alive1 _).mono ?_
    rintro e w2 ⟨rfl, hg⟩
    replace hA := hA.keep hg; replace hB := hB.keep hg; replace hC := hC.keep hg; replace hW := grown_trans hW hg; clear hg
    go_wp2_with fail
    go_ret
    exact ⟨rfl, hW⟩

set_option maxRecDepth 100000 in
theorem naturalQuotients_lifted (os : Os) (started : os.Started) (H : Type) (enc : TypeId × Value → H) :
    ReturnsInHanded {} Try.checked os 7 .any (Rows.naturalQuotientsSpec.pre6 enc Try.prog Try.f7 Rows.naturalQuotientsRow.domain false) (Rows.naturalQuotientsSpec.post enc Try.prog Try.f7 false true false false) := by
  refine returnsInHanded_of_change (C := Try.checked) own1 started (by kernel_rfl) Try.func7
    (ChangeSpec.witness6 (enc := enc) (C := Try.checked) false ⟨#[], #[.slice none 0 0, .slice none 0 0, .slice none 0 0], []⟩ 8 (by kernel_rfl) (by kernel_rfl) (by kernel_rfl) (by kernel_rfl)) ?_
  intro W base args ds gs before hval0 hW hcnd _
  have hval : ∀ (j : Nat) t v, Try.f7.params[j]? = some t → args[j]? = some v → Value.okWide Try.prog W .any base t v := hval0
  have hW' := hW
  obtain ⟨p, q, hA0, hV, rfl, hfz, hnd⟩ := hW
  have hA : DataW.TrodAll enc Try.prog W 0 (fun _ => true) true Try.f7.params.toList args.toList ds p := hA0
  rw [Try.params7] at hA hval
  obtain ⟨v0, v1, v2, d0, d1, d2, p0, p1, p2, rfl, rfl, rfl, h0, h1, h2⟩ := trodAll_three hA
  obtain ⟨rfl, rfl⟩ := trodVars_none hV
  have hlt : ∀ x ∈ p0 ++ (p1 ++ (p2)), x.block < W.heap.size := fun x hx => hW'.lt x (by simpa using hx)
  obtain ⟨a, n, c, xs, rfl, hr0, hx0⟩ := open_nat (hval 0 23 v0 rfl rfl) h0
  obtain ⟨b, m, d, ys, rfl, hr1, hx1⟩ := open_nat (hval 1 23 v1 rfl rfl) h1
  obtain ⟨r, l, k, zs, rfl, hr2, hx2⟩ := open_nat (hval 2 23 v2 rfl rfl) h2
  refine (naturalQuotients_walk a b r n c m d l k _ _ _ W (IsN.of hr0 hx0) (IsN.of hr1 hx1) (IsN.of hr2 hx2)).mono fun e W' ⟨he, hg⟩ => ?_
  subst he
  have hB := grown_below hg
  exact ⟨_, rfl, _, _, _, [], _, [], hW', trodAll_mk1 (shut_bool Try.underlying4 true),
    trodAll_mk3 (Below.trod laidOut1 readNat rowNat h0 hB fun x hx => hlt x (by simp [hx])) (Below.trod laidOut1 readNat rowNat h1 hB fun x hx => hlt x (by simp [hx])) (Below.trod laidOut1 readNat rowNat h2 hB fun x hx => hlt x (by simp [hx])), rfl, hB.frame _, fun h => by cases h⟩

theorem naturalQuotients_holds : Rows.NaturalQuotientsSaid :=
  OpenClaim.holds_of_wide 7 Try.f7 rfl rfl rfl rfl rfl rfl rfl ⟨rfl, rfl, rfl, rfl, rfl⟩ rfl rfl rfl rfl rfl (by kernel_rfl) Try.func7 (by kernel_rfl)
    (of_decide_eq_true (by kernel_rfl)) (by unfold Func.isWrapper; first | (rw [if_pos (by decide +kernel)]; kernel_rfl) | (rw [if_neg (by decide +kernel)]; exact ⟨rfl, rfl⟩))
    (fun os started H enc _ => naturalQuotients_lifted os started H enc)

end Go.Proofs.Ytfoljdondkdilaa
