/-
  Whatever the arguments are, the Go function NaturalAdds returns true and leaves them as they are. No condition.
-/
import Derived.Test.YtjollejmgpfhmaaRefMul
import Derived.Test.YtjollejmgpfhmaaSmallB
import Derived.Test.YtjollejmgpfhmaaAliveA
import Derived.Test.YtjollejmgpfhmaaOpen
set_option linter.unusedVariables false
set_option linter.unusedSimpArgs false
namespace Go.Proofs.Ytjollejmgpfhmaa
open Go.ChangeShapes Go.WideShapes Go.ChangeAt Go.RowKit Nm

set_option maxHeartbeats 4000000 in
theorem naturalAdds_walk (a b : Option Addr) (n c m d A B : Nat) (w : World) (hA : IsN w a n c A) (hB : IsN w b m d B) :
    Calls Try.prog 4 #[.slice a n c, .slice b m d] w fun e w' => e = .returned (.bool true) ∧ w.grownBy w' none := by
  have hS := small1_pair a b n c m d w
  by_cases h24 : n ≤ 24 ∧ m ≤ 24
  · rw [decide_eq_true h24] at hS
    obtain ⟨hn, hm⟩ := h24
    have HS := hid hS
    clear hS
    have hW : w.grownBy w none := grown_refl _ _
    rcases Nat.lt_or_ge A B with hlt | hle
    · go_enter Try.func4, Try.ntmps4
      go_wp2_with fail
      refine HS.out.mono ?_
      rintro e w0 ⟨rfl, hg⟩
      replace hA := hA.keep hg; replace hB := hB.keep hg; replace hW := grown_trans hW hg; clear hg
      go_wp2_with fail
      refine (natSub_e hA hB hlt).mono ?_
      rintro e w1 ⟨rfl, hg⟩
      replace hA := hA.keep hg; replace hB := hB.keep hg; replace hW := grown_trans hW hg; clear hg
      have d1 := IsC.nil w1
      go_wp2_with fail
      refine (refSub_e hA hB hlt).mono ?_
      rintro e w2 ⟨rfl, rfl⟩
      have x1 := d1
      go_wp2_with fail
      refine (natAdd_n hA hB (by omega) (by omega)).mono ?_
      rintro e w3 ⟨p3, n3, c3, rfl, a1, hn3, hg⟩
      replace hA := hA.keep hg; replace hB := hB.keep hg; replace d1 := d1.keep hg; replace x1 := x1.keep hg; replace hW := grown_trans hW hg; clear hg
      go_wp2_with fail
      refine (refAdd_n hA hB (by omega) (by omega)).mono ?_
      rintro e w4 ⟨p4, n4, c4, rfl, a2, hn4, hg⟩
      replace hA := hA.keep hg; replace hB := hB.keep hg; replace d1 := d1.keep hg; replace x1 := x1.keep hg; replace a1 := a1.keep hg; replace hW := grown_trans hW hg; clear hg
      go_wp2_with fail
      refine (same_c a1 a2 rfl).mono ?_
      rintro e w5 ⟨rfl, hg⟩
      replace hA := hA.keep hg; replace hB := hB.keep hg; replace d1 := d1.keep hg; replace x1 := x1.keep hg; replace a1 := a1.keep hg; replace a2 := a2.keep hg; replace hW := grown_trans hW hg; clear hg
      clear a1
      clear a2
      go_wp2_with fail
      refine (natMul_n hA hB (by omega) (by omega)).mono ?_
      rintro e w6 ⟨p6, n6, c6, rfl, m1, hn6, hg⟩
      replace hA := hA.keep hg; replace hB := hB.keep hg; replace d1 := d1.keep hg; replace x1 := x1.keep hg; replace hW := grown_trans hW hg; clear hg
      go_wp2_with fail
      refine (refMul_n hA hB (by omega) (by omega)).mono ?_
      rintro e w7 ⟨p7, n7, c7, rfl, m2, hn7, hg⟩
      replace hA := hA.keep hg; replace hB := hB.keep hg; replace d1 := d1.keep hg; replace x1 := x1.keep hg; replace m1 := m1.keep hg; replace hW := grown_trans hW hg; clear hg
      go_wp2_with fail
      refine (same_c m1 m2 rfl).mono ?_
      rintro e w8 ⟨rfl, hg⟩
      replace hA := hA.keep hg; replace hB := hB.keep hg; replace d1 := d1.keep hg; replace x1 := x1.keep hg; replace m1 := m1.keep hg; replace m2 := m2.keep hg; replace hW := grown_trans hW hg; clear hg
      clear m1
      clear m2
      go_wp2_with fail
      refine (same_c d1 x1 rfl).mono ?_
      rintro e w9 ⟨rfl, hg⟩
      replace hA := hA.keep hg; replace hB := hB.keep hg; replace d1 := d1.keep hg; replace x1 := x1.keep hg; replace hW := grown_trans hW hg; clear hg
      go_wp2_with fail
      refine (alive1 _).mono ?_
      rintro e w10 ⟨rfl, hg⟩
      replace hA := hA.keep hg; replace hB := hB.keep hg; replace d1 := d1.keep hg; replace x1 := x1.keep hg; replace hW := grown_trans hW hg; clear hg
      go_wp2_with fail
      go_ret
      exact ⟨rfl, hW⟩
    · go_enter Try.func4, Try.ntmps4
      go_wp2_with fail
      refine HS.out.mono ?_
      rintro e w0 ⟨rfl, hg⟩
      replace hA := hA.keep hg; replace hB := hB.keep hg; replace hW := grown_trans hW hg; clear hg
      go_wp2_with fail
      refine (natSub_n hA hB (by omega) (by omega) hle).mono ?_
      rintro e w1 ⟨p1, n1, c1, rfl, d1, hn1, hg⟩
      replace hA := hA.keep hg; replace hB := hB.keep hg; replace hW := grown_trans hW hg; clear hg
      go_wp2_with fail
      refine (refSub_n hA hB (by omega) hle).mono ?_
      rintro e w2 ⟨p2, n2, c2, rfl, x1, hn2, hg⟩
      replace hA := hA.keep hg; replace hB := hB.keep hg; replace d1 := d1.keep hg; replace hW := grown_trans hW hg; clear hg
      go_wp2_with fail
      refine (natAdd_n hA hB (by omega) (by omega)).mono ?_
      rintro e w3 ⟨p3, n3, c3, rfl, a1, hn3, hg⟩
      replace hA := hA.keep hg; replace hB := hB.keep hg; replace d1 := d1.keep hg; replace x1 := x1.keep hg; replace hW := grown_trans hW hg; clear hg
      go_wp2_with fail
      refine (refAdd_n hA hB (by omega) (by omega)).mono ?_
      rintro e w4 ⟨p4, n4, c4, rfl, a2, hn4, hg⟩
      replace hA := hA.keep hg; replace hB := hB.keep hg; replace d1 := d1.keep hg; replace x1 := x1.keep hg; replace a1 := a1.keep hg; replace hW := grown_trans hW hg; clear hg
      go_wp2_with fail
      refine (same_c a1 a2 rfl).mono ?_
      rintro e w5 ⟨rfl, hg⟩
      replace hA := hA.keep hg; replace hB := hB.keep hg; replace d1 := d1.keep hg; replace x1 := x1.keep hg; replace a1 := a1.keep hg; replace a2 := a2.keep hg; replace hW := grown_trans hW hg; clear hg
      clear a1
      clear a2
      go_wp2_with fail
      refine (natMul_n hA hB (by omega) (by omega)).mono ?_
      rintro e w6 ⟨p6, n6, c6, rfl, m1, hn6, hg⟩
      replace hA := hA.keep hg; replace hB := hB.keep hg; replace d1 := d1.keep hg; replace x1 := x1.keep hg; replace hW := grown_trans hW hg; clear hg
      go_wp2_with fail
      refine (refMul_n hA hB (by omega) (by omega)).mono ?_
      rintro e w7 ⟨p7, n7, c7, rfl, m2, hn7, hg⟩
      replace hA := hA.keep hg; replace hB := hB.keep hg; replace d1 := d1.keep hg; replace x1 := x1.keep hg; replace m1 := m1.keep hg; replace hW := grown_trans hW hg; clear hg
      go_wp2_with fail
      refine (same_c m1 m2 rfl).mono ?_
      rintro e w8 ⟨rfl, hg⟩
      replace hA := hA.keep hg; replace hB := hB.keep hg; replace d1 := d1.keep hg; replace x1 := x1.keep hg; replace m1 := m1.keep hg; replace m2 := m2.keep hg; replace hW := grown_trans hW hg; clear hg
      clear m1
      clear m2
      go_wp2_with fail
      refine (same_c d1 x1 rfl).mono ?_
      rintro e w9 ⟨rfl, hg⟩
      replace hA := hA.keep hg; replace hB := hB.keep hg; replace d1 := d1.keep hg; replace x1 := x1.keep hg; replace hW := grown_trans hW hg; clear hg
      go_wp2_with fail
      refine (alive1 _).mono ?_
      rintro e w10 ⟨rfl, hg⟩
      replace hA := hA.keep hg; replace hB := hB.keep hg; replace d1 := d1.keep hg; replace x1 := x1.keep hg; replace hW := grown_trans hW hg; clear hg
      go_wp2_with fail
      go_ret
      exact ⟨rfl, hW⟩
  · rw [decide_eq_false h24] at hS
    have HS := hid hS
    clear hS h24
    go_enter Try.func4, Try.ntmps4
    go_wp2_with fail
    refine HS.out.mono ?_
    rintro e w0 ⟨rfl, hW⟩
    go_wp2_with fail
    refine (alive1 _).mono ?_
    rintro e w1 ⟨rfl, hg⟩
    go_wp2_with fail
    go_ret
    exact ⟨rfl, grown_trans hW hg⟩

set_option maxRecDepth 100000 in
theorem naturalAdds_lifted (os : Os) (started : os.Started) (H : Type) (enc : TypeId × Value → H) :
    ReturnsInHanded {} Try.checked os 4 .any (Rows.naturalAddsSpec.pre6 enc Try.prog Try.f4 Rows.naturalAddsRow.domain false) (Rows.naturalAddsSpec.post enc Try.prog Try.f4 false true false false) := by
  refine returnsInHanded_of_change (C := Try.checked) own1 started (by kernel_rfl) Try.func4
    (ChangeSpec.witness6 (enc := enc) (C := Try.checked) false ⟨#[], #[.slice none 0 0, .slice none 0 0], []⟩ 8 (by kernel_rfl) (by kernel_rfl) (by kernel_rfl) (by kernel_rfl)) ?_
  intro W base args ds gs before hval0 hW hcnd _
  have hval : ∀ (j : Nat) t v, Try.f4.params[j]? = some t → args[j]? = some v → Value.okWide Try.prog W .any base t v := hval0
  have hW' := hW
  obtain ⟨p, q, hA0, hV, rfl, hfz, hnd⟩ := hW
  have hA : DataW.TrodAll enc Try.prog W 0 (fun _ => true) true Try.f4.params.toList args.toList ds p := hA0
  rw [Try.params4] at hA hval
  obtain ⟨v0, v1, d0, d1, p0, p1, rfl, rfl, rfl, h0, h1⟩ := trodAll_two hA
  obtain ⟨rfl, rfl⟩ := trodVars_none hV
  have hlt : ∀ x ∈ p0 ++ (p1), x.block < W.heap.size := fun x hx => hW'.lt x (by simpa using hx)
  obtain ⟨a, n, c, xs, rfl, hr0, hx0⟩ := open_nat (hval 0 23 v0 rfl rfl) h0
  obtain ⟨b, m, d, ys, rfl, hr1, hx1⟩ := open_nat (hval 1 23 v1 rfl rfl) h1
  refine (naturalAdds_walk a b n c m d _ _ W (IsN.of hr0 hx0) (IsN.of hr1 hx1)).mono fun e W' ⟨he, hg⟩ => ?_
  subst he
  have hB := grown_below hg
  exact ⟨_, rfl, _, _, _, [], _, [], hW', trodAll_mk1 (shut_bool Try.underlying4 true),
    trodAll_mk2 (Below.trod laidOut1 readNat rowNat h0 hB fun x hx => hlt x (by simp [hx])) (Below.trod laidOut1 readNat rowNat h1 hB fun x hx => hlt x (by simp [hx])), rfl, hB.frame _, fun h => by cases h⟩

theorem naturalAdds_holds : Rows.NaturalAddsSaid :=
  OpenClaim.holds_of_wide 4 Try.f4 rfl rfl rfl rfl rfl rfl rfl ⟨rfl, rfl, rfl, rfl, rfl⟩ rfl rfl rfl rfl rfl (by kernel_rfl) Try.func4 (by kernel_rfl)
    (of_decide_eq_true (by kernel_rfl)) (by unfold Func.isWrapper; first | (rw [if_pos (by decide +kernel)]; kernel_rfl) | (rw [if_neg (by decide +kernel)]; exact ⟨rfl, rfl⟩))
    (fun os started H enc _ => naturalAdds_lifted os started H enc)

end Go.Proofs.Ytjollejmgpfhmaa
