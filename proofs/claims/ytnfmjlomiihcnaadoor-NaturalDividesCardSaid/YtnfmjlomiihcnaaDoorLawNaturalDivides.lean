/-
  Whatever the arguments are, the Go function NaturalDivides returns true and leaves them as they are. Condition: the table deBruijn64tab of package math/bits holds what the program's text lays (the card ties it).
-/
import Derived.Test.YtnfmjlomiihcnaaDoorGcd
import Derived.Test.YtnfmjlomiihcnaaDoorGcdR
import Derived.Test.YtnfmjlomiihcnaaDoorRefDiv
import Derived.Test.YtnfmjlomiihcnaaDoorSmallB
import Derived.Test.YtnfmjlomiihcnaaDoorAliveA
import Derived.Test.YtnfmjlomiihcnaaDoorOpen
import Derived.Test.YtnfmjlomiihcnaaDoorTied
set_option linter.unusedVariables false
set_option linter.unusedSimpArgs false
namespace Go.Proofs.YtnfmjlomiihcnaaDoor
open Go.ChangeShapes Go.WideShapes Go.ChangeAt Go.RowKit Nm
open Go

set_option maxHeartbeats 4000000 in
theorem naturalDivides_walk (a b : Option Addr) (n c m d A B : Nat) (w : World) (T : Tb w) (hA : IsN w a n c A) (hB : IsN w b m d B) :
    Calls Tryd.prog 3 #[.slice a n c, .slice b m d] w fun e w' => e = .returned (.bool true) ∧ w.grownBy w' none := by
  have hS := small1_pair a b n c m d w
  have hW : w.grownBy w none := grown_refl _ _
  by_cases h24 : n ≤ 24 ∧ m ≤ 24
  rotate_left
  · rw [decide_eq_false h24] at hS
    have HS := hid hS
    clear hS h24
    go_enter Tryd.func3, Tryd.ntmps3
    go_wp2_with fail
    refine HS.out.mono ?_
    rintro e w0 ⟨rfl, hW⟩
    go_wp2_with fail
    refine (alive1 _).mono ?_
    rintro e w1 ⟨rfl, hg⟩
    go_wp2_with fail
    go_ret
    exact ⟨rfl, grown_trans hW hg⟩
  rw [decide_eq_true h24] at hS
  obtain ⟨hn, hm⟩ := h24
  have HS := hid hS
  clear hS
  go_enter Tryd.func3, Tryd.ntmps3
  go_wp2_with fail
  refine HS.out.mono ?_
  rintro e w0 ⟨rfl, hg⟩
  replace hA := hA.keep hg; replace hB := hB.keep hg; replace T := T.keep hg; replace hW := grown_trans hW hg; clear hg
  rcases Nat.eq_zero_or_pos B with h0 | h0
  · subst h0
    go_wp2_with fail
    refine (natDivMod_e hA hB).mono ?_
    rintro e w1 ⟨rfl, hg⟩
    replace hA := hA.keep hg; replace hB := hB.keep hg; replace T := T.keep hg; replace hW := grown_trans hW hg; clear hg
    go_wp2_with fail
    refine (refDivMod_e hA hB (by omega) (by omega)).mono ?_
    rintro e w2 ⟨rfl, hg⟩
    replace hA := hA.keep hg; replace hB := hB.keep hg; replace T := T.keep hg; replace hW := grown_trans hW hg; clear hg
    go_wp2_with fail
    refine (same_c (IsC.nil _) (IsC.nil _) rfl).mono ?_
    rintro e w3 ⟨rfl, hg⟩
    replace hA := hA.keep hg; replace hB := hB.keep hg; replace T := T.keep hg; replace hW := grown_trans hW hg; clear hg
    go_wp2_with fail
    refine (same_c (IsC.nil _) (IsC.nil _) rfl).mono ?_
    rintro e w4 ⟨rfl, hg⟩
    replace hA := hA.keep hg; replace hB := hB.keep hg; replace T := T.keep hg; replace hW := grown_trans hW hg; clear hg
    go_wp2_with fail
    refine (natGcd_n T hA hB (by omega) (by omega)).mono ?_
    rintro e w5 ⟨p5, n5, c5, rfl, g1, hn5, hg⟩
    replace hA := hA.keep hg; replace hB := hB.keep hg; replace T := T.keep hg; replace hW := grown_trans hW hg; clear hg
    go_wp2_with fail
    refine (refGcd_n hA hB (by omega) (by omega)).mono ?_
    rintro e w6 ⟨p6, n6, c6, rfl, g2, hn6, hg⟩
    replace hA := hA.keep hg; replace hB := hB.keep hg; replace T := T.keep hg; replace g1 := g1.keep hg; replace hW := grown_trans hW hg; clear hg
    go_wp2_with fail
    refine (same_c g1 g2 rfl).mono ?_
    rintro e w7 ⟨rfl, hg⟩
    replace hA := hA.keep hg; replace hB := hB.keep hg; replace T := T.keep hg; replace g1 := g1.keep hg; replace g2 := g2.keep hg; replace hW := grown_trans hW hg; clear hg
    go_wp2_with fail
    refine (alive1 _).mono ?_
    rintro e w8 ⟨rfl, hg⟩
    replace hA := hA.keep hg; replace hB := hB.keep hg; replace T := T.keep hg; replace g1 := g1.keep hg; replace g2 := g2.keep hg; replace hW := grown_trans hW hg; clear hg
    go_wp2_with fail
    go_ret
    exact ⟨rfl, hW⟩
  · go_wp2_with fail
    refine (natDivMod_n hA hB (by omega) (by omega) h0).mono ?_
    rintro e w1 ⟨p1, n1, c1, u1, v1, z1, rfl, q1, r1, hn1, hm1, hmm1, hg⟩
    replace hA := hA.keep hg; replace hB := hB.keep hg; replace T := T.keep hg; replace hW := grown_trans hW hg; clear hg
    go_wp2_with fail
    refine (refDivMod_n hA hB (by omega) (by omega) h0).mono ?_
    rintro e w2 ⟨p2, n2, c2, u2, v2, z2, rfl, q2, r2, hn2, hm2, hg⟩
    replace hA := hA.keep hg; replace hB := hB.keep hg; replace T := T.keep hg; replace q1 := q1.keep hg; replace r1 := r1.keep hg; replace hW := grown_trans hW hg; clear hg
    go_wp2_with fail
    refine (same_c q1 q2 rfl).mono ?_
    rintro e w3 ⟨rfl, hg⟩
    replace hA := hA.keep hg; replace hB := hB.keep hg; replace T := T.keep hg; replace q1 := q1.keep hg; replace r1 := r1.keep hg; replace q2 := q2.keep hg; replace r2 := r2.keep hg; replace hW := grown_trans hW hg; clear hg
    go_wp2_with fail
    refine (same_c r1 r2 rfl).mono ?_
    rintro e w4 ⟨rfl, hg⟩
    replace hA := hA.keep hg; replace hB := hB.keep hg; replace T := T.keep hg; replace q1 := q1.keep hg; replace r1 := r1.keep hg; replace q2 := q2.keep hg; replace r2 := r2.keep hg; replace hW := grown_trans hW hg; clear hg
    go_wp2_with fail
    refine (natGcd_n T hA hB (by omega) (by omega)).mono ?_
    rintro e w5 ⟨p5, n5, c5, rfl, g1, hn5, hg⟩
    replace hA := hA.keep hg; replace hB := hB.keep hg; replace T := T.keep hg; replace q1 := q1.keep hg; replace r1 := r1.keep hg; replace q2 := q2.keep hg; replace r2 := r2.keep hg; replace hW := grown_trans hW hg; clear hg
    go_wp2_with fail
    refine (refGcd_n hA hB (by omega) (by omega)).mono ?_
    rintro e w6 ⟨p6, n6, c6, rfl, g2, hn6, hg⟩
    replace hA := hA.keep hg; replace hB := hB.keep hg; replace T := T.keep hg; replace q1 := q1.keep hg; replace r1 := r1.keep hg; replace q2 := q2.keep hg; replace r2 := r2.keep hg; replace g1 := g1.keep hg; replace hW := grown_trans hW hg; clear hg
    go_wp2_with fail
    refine (same_c g1 g2 rfl).mono ?_
    rintro e w7 ⟨rfl, hg⟩
    replace hA := hA.keep hg; replace hB := hB.keep hg; replace T := T.keep hg; replace q1 := q1.keep hg; replace r1 := r1.keep hg; replace q2 := q2.keep hg; replace r2 := r2.keep hg; replace g1 := g1.keep hg; replace g2 := g2.keep hg; replace hW := grown_trans hW hg; clear hg
    go_wp2_with fail
    refine (alive1 _).mono ?_
    rintro e w8 ⟨rfl, hg⟩
    replace hA := hA.keep hg; replace hB := hB.keep hg; replace T := T.keep hg; replace q1 := q1.keep hg; replace r1 := r1.keep hg; replace q2 := q2.keep hg; replace r2 := r2.keep hg; replace g1 := g1.keep hg; replace g2 := g2.keep hg; replace hW := grown_trans hW hg; clear hg
    go_wp2_with fail
    go_ret
    exact ⟨rfl, hW⟩

theorem naturalDivides_door (os : Os) (args : Array Value) : laidMetH Tryd.prog [("math/bits.deBruijn64tab", Rows.laid_math_bits_deBruijn64tab)] ((World.doorLaid Tryd.prog 400 os).forCall (fun _ _ => 0) ⟨#[], args, []⟩).memory :=
  laidMetH_of_parts3 (fuel := 8) (laidMet_of_run' 8 (by kernel_rfl) (by kernel_rfl)) (by kernel_rfl) (by kernel_rfl)

set_option maxRecDepth 100000 in
theorem naturalDivides_lifted (os : Os) (started : os.Started) (H : Type) (enc : TypeId × Value → H) :
    ReturnsInHanded {} Tryd.checked os 3 .any (fun w args => (Rows.naturalDividesSpec.pre enc Tryd.prog Tryd.f3 [] false w args ∧ laidMetH Tryd.prog [("math/bits.deBruijn64tab", Rows.laid_math_bits_deBruijn64tab)] w) ∧ sizedMet enc Tryd.prog Tryd.f3 (OpenSpec.ofChange Rows.naturalDividesSpec) false w args)
      (Rows.naturalDividesSpec.post enc Tryd.prog Tryd.f3 false true false false) := by
  refine returnsInHanded_of_change_and (C := Tryd.checked) (X := fun w _ => laidMetH Tryd.prog [("math/bits.deBruijn64tab", Rows.laid_math_bits_deBruijn64tab)] w) (fun _ _ _ hh h => h.of_heap hh) own1 started (by kernel_rfl) Tryd.func3
    (ChangeSpec.witness_shaped (enc := enc) (C := Tryd.checked) (os := os) (X := fun w _ => laidMetH Tryd.prog [("math/bits.deBruijn64tab", Rows.laid_math_bits_deBruijn64tab)] w) false (World.doorLaid Tryd.prog 400 os) #[.slice none 0 0, .slice none 0 0] 8 rfl (World.shaped_of_RefB (by kernel_rfl) (by kernel_rfl)) (by kernel_rfl) (by kernel_rfl) (by kernel_rfl) (naturalDivides_door os _)) ?_
  intro W base args ds gs before hval0 hW _ _ hL _
  have hval : ∀ (j : Nat) t v, Tryd.f3.params[j]? = some t → args[j]? = some v → Value.okWide Tryd.prog W .any base t v := hval0
  have hW' := hW
  obtain ⟨p, q, hA0, hV, rfl, hfz, hnd⟩ := hW
  have hA : DataW.TrodAll enc Tryd.prog W 0 (fun _ => true) true Tryd.f3.params.toList args.toList ds p := hA0
  rw [Tryd.params3] at hA hval
  obtain ⟨v0, v1, d0, d1, p0, p1, rfl, rfl, rfl, h0, h1⟩ := trodAll_two hA
  obtain ⟨rfl, rfl⟩ := trodVars_none hV
  have hlt : ∀ x ∈ p0 ++ (p1), x.block < W.heap.size := fun x hx => hW'.lt x (by simpa using hx)
  obtain ⟨a, n, c, xs, rfl, hr0, hx0⟩ := open_nat (hval 0 23 v0 rfl rfl) h0
  obtain ⟨b, m, d, ys, rfl, hr1, hx1⟩ := open_nat (hval 1 23 v1 rfl rfl) h1
  refine (naturalDivides_walk a b n c m d _ _ W (tb_of_laid hL) (IsN.of hr0 hx0) (IsN.of hr1 hx1)).mono fun e W' ⟨he, hg⟩ => ?_
  subst he
  have hB := grown_below hg
  exact ⟨_, rfl, _, _, _, [], _, [], hW', trodAll_mk1 (shut_bool Tryd.underlying4 true),
    trodAll_mk2 (Below.trod laidOut1 readNat rowNat h0 hB fun x hx => hlt x (by simp [hx])) (Below.trod laidOut1 readNat rowNat h1 hB fun x hx => hlt x (by simp [hx])), rfl, hB.frame _, fun h => by cases h⟩

theorem naturalDivides_holds : Rows.NaturalDividesSaid :=
  OpenClaim.holds_of_wide 3 Tryd.f3 rfl rfl rfl rfl rfl rfl rfl ⟨rfl, rfl, rfl, rfl, rfl⟩ rfl rfl rfl rfl rfl (by kernel_rfl) Tryd.func3 (by kernel_rfl)
    (of_decide_eq_true (by kernel_rfl)) (by unfold Func.isWrapper; first | (rw [if_pos (by decide +kernel)]; kernel_rfl) | (rw [if_neg (by decide +kernel)]; exact ⟨rfl, rfl⟩))
    (fun os started H enc _ => naturalDivides_lifted os started H enc)

theorem naturalDivides_card : Rows.NaturalDividesCardSaid :=
  Claim7.holds_tied_plain_at .later [] [.data] true _ true
    naturalDivides_holds (fun _ h => by cases h) (by kernel_rfl) (fun _ h => by cases h) naturalDivides_row_tie rfl ⟨rfl, rfl⟩ (by kernel_rfl) rfl
    (fun f fn hf hfn => by
      obtain rfl : f = 3 := Option.some.inj ((show Tryd.prog.funcNamed "geoprover/geoproverlaw01.NaturalDivides" = some 3 by kernel_rfl).symm.trans hf) |>.symm
      obtain rfl : fn = Tryd.f3 := (Option.some.inj (Tryd.func3.symm.trans hfn)).symm
      exact ⟨by kernel_rfl, fun j t ht => by
        rw [Tryd.params3] at ht
        have hm : t ∈ [23, 23] := by simpa using Array.mem_of_getElem? ht
        have hall : ([23, 23].all fun u => !Tryd.prog.wantsStandIn u) = true := by kernel_rfl
        exact (show Tryd.prog.wantsStandIn t = false by simpa using List.all_eq_true.1 hall t hm)⟩)
    (by kernel_rfl)

end Go.Proofs.YtnfmjlomiihcnaaDoor
