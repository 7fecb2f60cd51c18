/-
  Whatever the arguments are, the Go function NaturalRing returns true and leaves them as they are. No condition.
-/
import Derived.Test.YtjollejmgpfhmaaVal
import Derived.Test.YtjollejmgpfhmaaSmallB
import Derived.Test.YtjollejmgpfhmaaAliveA
import Derived.Test.YtjollejmgpfhmaaOpen
set_option linter.unusedVariables false
set_option linter.unusedSimpArgs false
namespace Go.Proofs.Ytjollejmgpfhmaa
open Go.ChangeShapes Go.WideShapes Go.ChangeAt Go.RowKit Nm

set_option maxHeartbeats 4000000 in
theorem naturalRing_walk (a b r : Option Addr) (n c m d l k A B C : Nat) (w : World) (hA : IsN w a n c A) (hB : IsN w b m d B) (hC : IsN w r l k C) :
    Calls Try.prog 6 #[.slice a n c, .slice b m d, .slice r l k] w fun e w' => e = .returned (.bool true) ∧ w.grownBy w' none := by
  have hS := small1_three a b r n c m d l k w
  by_cases h24 : n ≤ 24 ∧ m ≤ 24 ∧ l ≤ 24
  · rw [decide_eq_true h24] at hS
    obtain ⟨hn, hm, hl⟩ := h24
    have HS := hid hS
    clear hS
    have hW : w.grownBy w none := grown_refl _ _
    go_enter Try.func6, Try.ntmps6
    go_wp2_with fail
    refine HS.out.mono ?_
    rintro e w0 ⟨rfl, hg⟩
    replace hA := hA.keep hg; replace hB := hB.keep hg; replace hC := hC.keep hg; replace hW := grown_trans hW hg; clear hg
    go_wp2_with fail
    refine (natAdd_n hA hB (by omega) (by omega)).mono ?_
    rintro e w1 ⟨p1, n1, c1, rfl, s1, hn1, hg⟩
    replace hA := hA.keep hg; replace hB := hB.keep hg; replace hC := hC.keep hg; replace hW := grown_trans hW hg; clear hg
    go_wp2_with fail
    refine (natSub_n s1.isN hB (by omega) (by omega) (Nat.le_add_left _ _)).mono ?_
    rintro e w2 ⟨p2, n2, c2, rfl, d1, hn2, hg⟩
    replace hA := hA.keep hg; replace hB := hB.keep hg; replace hC := hC.keep hg; replace s1 := s1.keep hg; replace hW := grown_trans hW hg; clear hg
    go_wp2_with fail
    refine (natAdd_n hB hA (by omega) (by omega)).mono ?_
    rintro e w3 ⟨p3, n3, c3, rfl, t1, hn3, hg⟩
    replace hA := hA.keep hg; replace hB := hB.keep hg; replace hC := hC.keep hg; replace s1 := s1.keep hg; replace d1 := d1.keep hg; replace hW := grown_trans hW hg; clear hg
    go_wp2_with fail
    refine (same_c s1 t1 (Nat.add_comm _ _)).mono ?_
    rintro e w4 ⟨rfl, hg⟩
    replace hA := hA.keep hg; replace hB := hB.keep hg; replace hC := hC.keep hg; replace s1 := s1.keep hg; replace d1 := d1.keep hg; replace t1 := t1.keep hg; replace hW := grown_trans hW hg; clear hg
    clear t1
    go_wp2_with fail
    refine (natNorm_n hA (by omega)).mono ?_
    rintro e w5 ⟨p5, n5, c5, rfl, t2, hn5, hg⟩
    replace hA := hA.keep hg; replace hB := hB.keep hg; replace hC := hC.keep hg; replace s1 := s1.keep hg; replace d1 := d1.keep hg; replace hW := grown_trans hW hg; clear hg
    go_wp2_with fail
    refine (same_c d1 t2 (Nat.add_sub_cancel _ _)).mono ?_
    rintro e w6 ⟨rfl, hg⟩
    replace hA := hA.keep hg; replace hB := hB.keep hg; replace hC := hC.keep hg; replace s1 := s1.keep hg; replace d1 := d1.keep hg; replace t2 := t2.keep hg; replace hW := grown_trans hW hg; clear hg
    clear t2
    clear d1
    go_wp2_with fail
    refine (natAdd_n s1.isN hC (by omega) (by omega)).mono ?_
    rintro e w7 ⟨p7, n7, c7, rfl, t3, hn7, hg⟩
    replace hA := hA.keep hg; replace hB := hB.keep hg; replace hC := hC.keep hg; replace s1 := s1.keep hg; replace hW := grown_trans hW hg; clear hg
    go_wp2_with fail
    refine (natAdd_n hB hC (by omega) (by omega)).mono ?_
    rintro e w8 ⟨p8, n8, c8, rfl, t4, hn8, hg⟩
    replace hA := hA.keep hg; replace hB := hB.keep hg; replace hC := hC.keep hg; replace s1 := s1.keep hg; replace t3 := t3.keep hg; replace hW := grown_trans hW hg; clear hg
    go_wp2_with fail
    refine (natAdd_n hA t4.isN (by omega) (by omega)).mono ?_
    rintro e w9 ⟨p9, n9, c9, rfl, t5, hn9, hg⟩
    replace hA := hA.keep hg; replace hB := hB.keep hg; replace hC := hC.keep hg; replace s1 := s1.keep hg; replace t3 := t3.keep hg; replace t4 := t4.keep hg; replace hW := grown_trans hW hg; clear hg
    go_wp2_with fail
    refine (same_c t3 t5 (Nat.add_assoc _ _ _)).mono ?_
    rintro e w10 ⟨rfl, hg⟩
    replace hA := hA.keep hg; replace hB := hB.keep hg; replace hC := hC.keep hg; replace s1 := s1.keep hg; replace t3 := t3.keep hg; replace t4 := t4.keep hg; replace t5 := t5.keep hg; replace hW := grown_trans hW hg; clear hg
    clear t3
    clear t4
    clear t5
    go_wp2_with fail
    refine (natMul_n hA hB (by omega) (by omega)).mono ?_
    rintro e w11 ⟨p11, n11, c11, rfl, m1, hn11, hg⟩
    replace hA := hA.keep hg; replace hB := hB.keep hg; replace hC := hC.keep hg; replace s1 := s1.keep hg; replace hW := grown_trans hW hg; clear hg
    go_wp2_with fail
    refine (natMul_n hB hA (by omega) (by omega)).mono ?_
    rintro e w12 ⟨p12, n12, c12, rfl, t6, hn12, hg⟩
    replace hA := hA.keep hg; replace hB := hB.keep hg; replace hC := hC.keep hg; replace s1 := s1.keep hg; replace m1 := m1.keep hg; replace hW := grown_trans hW hg; clear hg
    go_wp2_with fail
    refine (same_c m1 t6 (Nat.mul_comm _ _)).mono ?_
    rintro e w13 ⟨rfl, hg⟩
    replace hA := hA.keep hg; replace hB := hB.keep hg; replace hC := hC.keep hg; replace s1 := s1.keep hg; replace m1 := m1.keep hg; replace t6 := t6.keep hg; replace hW := grown_trans hW hg; clear hg
    clear t6
    go_wp2_with fail
    refine (natMul_n m1.isN hC (by omega) (by omega)).mono ?_
    rintro e w14 ⟨p14, n14, c14, rfl, t7, hn14, hg⟩
    replace hA := hA.keep hg; replace hB := hB.keep hg; replace hC := hC.keep hg; replace s1 := s1.keep hg; replace m1 := m1.keep hg; replace hW := grown_trans hW hg; clear hg
    go_wp2_with fail
    refine (natMul_n hB hC (by omega) (by omega)).mono ?_
    rintro e w15 ⟨p15, n15, c15, rfl, t8, hn15, hg⟩
    replace hA := hA.keep hg; replace hB := hB.keep hg; replace hC := hC.keep hg; replace s1 := s1.keep hg; replace m1 := m1.keep hg; replace t7 := t7.keep hg; replace hW := grown_trans hW hg; clear hg
    go_wp2_with fail
    refine (natMul_n hA t8.isN (by omega) (by omega)).mono ?_
    rintro e w16 ⟨p16, n16, c16, rfl, t9, hn16, hg⟩
    replace hA := hA.keep hg; replace hB := hB.keep hg; replace hC := hC.keep hg; replace s1 := s1.keep hg; replace m1 := m1.keep hg; replace t7 := t7.keep hg; replace t8 := t8.keep hg; replace hW := grown_trans hW hg; clear hg
    go_wp2_with fail
    refine (same_c t7 t9 (Nat.mul_assoc _ _ _)).mono ?_
    rintro e w17 ⟨rfl, hg⟩
    replace hA := hA.keep hg; replace hB := hB.keep hg; replace hC := hC.keep hg; replace s1 := s1.keep hg; replace m1 := m1.keep hg; replace t7 := t7.keep hg; replace t8 := t8.keep hg; replace t9 := t9.keep hg; replace hW := grown_trans hW hg; clear hg
    clear t7
    clear t8
    clear t9
    go_wp2_with fail
    refine (natMul_n s1.isN hC (by omega) (by omega)).mono ?_
    rintro e w18 ⟨p18, n18, c18, rfl, u1, hn18, hg⟩
    replace hA := hA.keep hg; replace hB := hB.keep hg; replace hC := hC.keep hg; replace s1 := s1.keep hg; replace m1 := m1.keep hg; replace hW := grown_trans hW hg; clear hg
    go_wp2_with fail
    refine (natMul_n hA hC (by omega) (by omega)).mono ?_
    rintro e w19 ⟨p19, n19, c19, rfl, u2, hn19, hg⟩
    replace hA := hA.keep hg; replace hB := hB.keep hg; replace hC := hC.keep hg; replace s1 := s1.keep hg; replace m1 := m1.keep hg; replace u1 := u1.keep hg; replace hW := grown_trans hW hg; clear hg
    go_wp2_with fail
    refine (natMul_n hB hC (by omega) (by omega)).mono ?_
    rintro e w20 ⟨p20, n20, c20, rfl, u3, hn20, hg⟩
    replace hA := hA.keep hg; replace hB := hB.keep hg; replace hC := hC.keep hg; replace s1 := s1.keep hg; replace m1 := m1.keep hg; replace u1 := u1.keep hg; replace u2 := u2.keep hg; replace hW := grown_trans hW hg; clear hg
    go_wp2_with fail
    refine (natAdd_n u2.isN u3.isN (by omega) (by omega)).mono ?_
    rintro e w21 ⟨p21, n21, c21, rfl, u4, hn21, hg⟩
    replace hA := hA.keep hg; replace hB := hB.keep hg; replace hC := hC.keep hg; replace s1 := s1.keep hg; replace m1 := m1.keep hg; replace u1 := u1.keep hg; replace u2 := u2.keep hg; replace u3 := u3.keep hg; replace hW := grown_trans hW hg; clear hg
    go_wp2_with fail
    refine (same_c u1 u4 (Nat.add_mul _ _ _)).mono ?_
    rintro e w22 ⟨rfl, hg⟩
    replace hA := hA.keep hg; replace hB := hB.keep hg; replace hC := hC.keep hg; replace s1 := s1.keep hg; replace m1 := m1.keep hg; replace u1 := u1.keep hg; replace u2 := u2.keep hg; replace u3 := u3.keep hg; replace u4 := u4.keep hg; replace hW := grown_trans hW hg; clear hg
    go_wp2_with fail
    refine (alive1 _).mono ?_
    rintro e w23 ⟨rfl, hg⟩
    replace hA := hA.keep hg; replace hB := hB.keep hg; replace hC := hC.keep hg; replace s1 := s1.keep hg; replace m1 := m1.keep hg; replace u1 := u1.keep hg; replace u2 := u2.keep hg; replace u3 := u3.keep hg; replace u4 := u4.keep hg; replace hW := grown_trans hW hg; clear hg
    go_wp2_with fail
    go_ret
    exact ⟨rfl, hW⟩
  · rw [decide_eq_false h24] at hS
    have HS := hid hS
    clear hS h24
    go_enter Try.func6, Try.ntmps6
    go_wp2_with fail
    refine HS.out.mono ?_
    rintro e w0 ⟨rfl, hW⟩
    go_wp2_with fail
    refine (alive1 _).mono ?_
    rintro e w1 ⟨rfl, hg⟩
    go_wp2_with fail
    go_ret
    exact ⟨rfl, grown_trans hW hg⟩

set_option maxRecDepth 100000 in
theorem naturalRing_lifted (os : Os) (started : os.Started) (H : Type) (enc : TypeId × Value → H) :
    ReturnsInHanded {} Try.checked os 6 .any (Rows.naturalRingSpec.pre6 enc Try.prog Try.f6 Rows.naturalRingRow.domain false) (Rows.naturalRingSpec.post enc Try.prog Try.f6 false true false false) := by
  refine returnsInHanded_of_change (C := Try.checked) own1 started (by kernel_rfl) Try.func6
    (ChangeSpec.witness6 (enc := enc) (C := Try.checked) false ⟨#[], #[.slice none 0 0, .slice none 0 0, .slice none 0 0], []⟩ 8 (by kernel_rfl) (by kernel_rfl) (by kernel_rfl) (by kernel_rfl)) ?_
  intro W base args ds gs before hval0 hW hcnd _
  have hval : ∀ (j : Nat) t v, Try.f6.params[j]? = some t → args[j]? = some v → Value.okWide Try.prog W .any base t v := hval0
  have hW' := hW
  obtain ⟨p, q, hA0, hV, rfl, hfz, hnd⟩ := hW
  have hA : DataW.TrodAll enc Try.prog W 0 (fun _ => true) true Try.f6.params.toList args.toList ds p := hA0
  rw [Try.params6] at hA hval
  obtain ⟨v0, v1, v2, d0, d1, d2, p0, p1, p2, rfl, rfl, rfl, h0, h1, h2⟩ := trodAll_three hA
  obtain ⟨rfl, rfl⟩ := trodVars_none hV
  have hlt : ∀ x ∈ p0 ++ (p1 ++ (p2)), x.block < W.heap.size := fun x hx => hW'.lt x (by simpa using hx)
  obtain ⟨a, n, c, xs, rfl, hr0, hx0⟩ := open_nat (hval 0 23 v0 rfl rfl) h0
  obtain ⟨b, m, d, ys, rfl, hr1, hx1⟩ := open_nat (hval 1 23 v1 rfl rfl) h1
  obtain ⟨r, l, k, zs, rfl, hr2, hx2⟩ := open_nat (hval 2 23 v2 rfl rfl) h2
  refine (naturalRing_walk a b r n c m d l k _ _ _ W (IsN.of hr0 hx0) (IsN.of hr1 hx1) (IsN.of hr2 hx2)).mono fun e W' ⟨he, hg⟩ => ?_
  subst he
  have hB := grown_below hg
  exact ⟨_, rfl, _, _, _, [], _, [], hW', trodAll_mk1 (shut_bool Try.underlying4 true),
    trodAll_mk3 (Below.trod laidOut1 readNat rowNat h0 hB fun x hx => hlt x (by simp [hx])) (Below.trod laidOut1 readNat rowNat h1 hB fun x hx => hlt x (by simp [hx])) (Below.trod laidOut1 readNat rowNat h2 hB fun x hx => hlt x (by simp [hx])), rfl, hB.frame _, fun h => by cases h⟩

theorem naturalRing_holds : Rows.NaturalRingSaid :=
  OpenClaim.holds_of_wide 6 Try.f6 rfl rfl rfl rfl rfl rfl rfl ⟨rfl, rfl, rfl, rfl, rfl⟩ rfl rfl rfl rfl rfl (by kernel_rfl) Try.func6 (by kernel_rfl)
    (of_decide_eq_true (by kernel_rfl)) (by unfold Func.isWrapper; first | (rw [if_pos (by decide +kernel)]; kernel_rfl) | (rw [if_neg (by decide +kernel)]; exact ⟨rfl, rfl⟩))
    (fun os started H enc _ => naturalRing_lifted os started H enc)

end Go.Proofs.Ytjollejmgpfhmaa
