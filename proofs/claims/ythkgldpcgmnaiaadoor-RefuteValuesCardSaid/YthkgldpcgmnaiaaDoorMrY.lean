/-
  Whatever the number is, the Go function RefuteValues returns true. Condition: the table deBruijn64tab of package math/bits holds what the text of the program lays (the card ties it).
-/
import Derived.Test.YthkgldpcgmnaiaaDoorMrT
import Derived.Test.YthkgldpcgmnaiaaDoorMrR
import Derived.OpenShut
import Derived.ChangeMaps5
import Derived.Lib.LaidTab
import Derived.Deep.RegionHeld3
import Derived.Deep.DeepCutAuto

set_option linter.unusedVariables false
set_option linter.unusedSimpArgs false
namespace Go.Proofs.YthkgldpcgmnaiaaDoor
open Go.ChangeShapes Go.WideShapes Go.ChangeAt Go.RowKit _root_.Nm
open Go Go.ChangeMaps
theorem hb0 {z : Int} (h : (Lit.int .i64 z).wf = true) : -9223372036854775808 ≤ z ∧ z ≤ 9223372036854775807 := by simpa [Lit.wf, IntKind.min, IntKind.max, IntKind.signed, IntKind.bits] using h
set_option maxHeartbeats 16000000 in
set_option maxRecDepth 100000 in
theorem refuteValues_walk {w : World} (T : Tb w) (k : Int) (hk1 : -9223372036854775808 ≤ k) (hk2 : k ≤ 9223372036854775807) :
    Calls Tryd.prog 3 #[.int .i64 k] w fun e w' => e = .returned (.bool true) ∧ w.grownBy w' none := by
  have HV := hid (value_v T k hk1 hk2)
  have HRV := hid fun W (hg : w.grownBy W none) => rValue_v (T.keep hg) k hk1 hk2
  clear T
  generalize vq k = v at *
  go_enter Tryd.func3, Tryd.ntmps3
  go_upto_region 2 with (go_at_call 4; (with_reducible refine HV.out.mono ?_); rintro ee w1 ⟨g1, p1, n1, c1, q1, m1, d1, rfl, hZ1, hn1, hm1, hg⟩; have HZ1 := hid hZ1; have HW := hid hg; clear hg hZ1; obtain ⟨i0, i1, i2, e0, e1, e2⟩ := ratbox_facts (blk0 w1 (.cells #[.bool false, .slice none 0 0, .slice none 0 0] 27 (0, 0))))
  clear i0 i1 i2 e0 e1 e2
  have gB := World.grownBy_alloc w1 (.cells #[.bool g1, .slice p1 n1 c1, .slice q1 m1 d1] 27 (0, 0)) none
  have B3 := hid (blk0 w1 (.cells #[.bool g1, .slice p1 n1 c1, .slice q1 m1 d1] 27 (0, 0)))
  replace HW := hid (grown_trans HW.out gB); replace HZ1 := hid (HZ1.out.keep gB)
  clear gB
  generalize w1.heap.size = K1 at *
  generalize (w1.alloc _) = w2 at *
  obtain ⟨i0, i1, i2, -, -, -⟩ := ratbox_facts B3.out
  have HRT := hid fun W (hg : w2.grownBy W none) => right_refv (HZ1.out.keep hg) (by omega) (by omega)
  have HRV2 := hid fun W (hg : w2.grownBy W none) => HRV.out W (grown_trans HW.out hg)
  have HEQ := hid fun W (hg : w2.grownBy W none) => HZ1.out.keep hg
  have HG := hid (grown_drew w2 none)
  clear HRV HV B3 HZ1
  go_region_held3 (fun w' => w'.cell? ⟨K1, 0, none⟩ = some (.bool g1) ∧ w'.cell? ⟨K1, 1, none⟩ = some (.slice p1 n1 c1) ∧ w'.cell? ⟨K1, 2, none⟩ = some (.slice q1 m1 d1)) ((try go_split_ands) <;> (repeat' apply And.intro) <;> (repeat (first | (with_reducible assumption) | (with_reducible refine (grown_drew _ none).cell ?_ (by simp))))) (first | (go_at_call 5; (with_reducible refine (HRT.out _ HG.out).mono ?_); rintro ee w3 ⟨rfl, hg⟩; replace HG := hid (grown_trans HG.out hg); replace i0 := hg.cell i0 (by simp); replace i1 := hg.cell i1 (by simp); replace i2 := hg.cell i2 (by simp); clear hg) | (go_at_call 7; (with_reducible refine (HRV2.out _ HG.out).mono ?_); rintro ee w4 ⟨g2, p2, n2, c2, q2, m2, d2, rfl, hZ2, hn2, hm2, hg⟩; have HZ2 := hid hZ2; replace HG := hid (grown_trans HG.out hg); replace i0 := hg.cell i0 (by simp); replace i1 := hg.cell i1 (by simp); replace i2 := hg.cell i2 (by simp); clear hg hZ2) | (go_at_call 6; (with_reducible refine (rEqual3_v 300 (HEQ.out _ HG.out).q HZ2.out.q (by omega) (by omega) (by omega) (by omega) (by omega)).mono ?_); rintro ee w5 ⟨rfl, hg⟩; replace HG := hid (grown_trans HG.out hg); replace i0 := hg.cell i0 (by simp); replace i1 := hg.cell i1 (by simp); replace i2 := hg.cell i2 (by simp); clear hg))
  go_wp2_with fail
  go_ret
  exact ⟨rfl, grown_trans HW.out HG.out⟩

theorem refuteValues_door (os : Os) (args : Array Value) : laidMetH Tryd.prog [("math/bits.deBruijn64tab", Rows.laid_math_bits_deBruijn64tab)] ((World.doorLaid Tryd.prog 400 os).forCall (fun _ _ => 0) ⟨#[], args, []⟩).memory :=
  laidMetH_of_parts3 (fuel := 8) (laidMet_of_run' 8 (by kernel_rfl) (by kernel_rfl)) (by kernel_rfl) (by kernel_rfl)

set_option maxRecDepth 100000 in
theorem refuteValues_lifted (os : Os) (started : os.Started) (H : Type) (enc : TypeId × Value → H) :
    ReturnsInHanded {} Tryd.checked os 3 .any (fun w args => (Rows.refuteValuesSpec.pre enc Tryd.prog Tryd.f3 [] false w args ∧ laidMetH Tryd.prog [("math/bits.deBruijn64tab", Rows.laid_math_bits_deBruijn64tab)] w) ∧ sizedMet enc Tryd.prog Tryd.f3 (OpenSpec.ofChange Rows.refuteValuesSpec) false w args)
      (Rows.refuteValuesSpec.post enc Tryd.prog Tryd.f3 false true false false) := by
  refine returnsInHanded_of_change_and (C := Tryd.checked) (X := fun w _ => laidMetH Tryd.prog [("math/bits.deBruijn64tab", Rows.laid_math_bits_deBruijn64tab)] w) (fun _ _ _ hh h => h.of_heap hh) own1 started (by kernel_rfl) Tryd.func3
    (ChangeSpec.witness_shaped (enc := enc) (C := Tryd.checked) (os := os) (X := fun w _ => laidMetH Tryd.prog [("math/bits.deBruijn64tab", Rows.laid_math_bits_deBruijn64tab)] w) false (World.doorLaid Tryd.prog 400 os) #[.int .i64 0] 8 rfl (World.shaped_of_RefB (by kernel_rfl) (by kernel_rfl)) (by kernel_rfl) (by kernel_rfl) (by kernel_rfl) (refuteValues_door os _)) ?_
  intro W base args ds gs before hval0 hW _ _ hL _
  have hval : ∀ (j : Nat) t v, Tryd.f3.params[j]? = some t → args[j]? = some v → Value.okWide Tryd.prog W .any base t v := hval0
  have hW' := hW
  obtain ⟨p, q, hA0, hV, rfl, hfz, hnd⟩ := hW
  have hA : DataW.TrodAll enc Tryd.prog W 0 (fun _ => true) true Tryd.f3.params.toList args.toList ds p := hA0
  rw [Tryd.params3] at hA hval
  obtain ⟨v0, d0, rfl, rfl, h0⟩ := trodAll_one hA
  obtain ⟨rfl, rfl⟩ := trodVars_none hV
  have hlt : ∀ x ∈ p, x.block < W.heap.size := fun x hx => hW'.lt x (by simpa using hx)
  obtain ⟨z0, rfl, rfl, rfl, hz0⟩ := open_int Tryd.underlying3 (hval 0 3 v0 rfl rfl) h0
  have hw := refuteValues_walk (tb_of_laid hL) z0 (hb0 hz0).1 (hb0 hz0).2
  refine hw.mono fun e W' ⟨he, hg⟩ => ?_
  subst he
  have hB := grown_below hg
  exact ⟨_, rfl, _, _, _, [], _, [], hW', trodAll_mk1 (shut_bool Tryd.underlying4 true),
    trodAll_mk1 (shut_int Tryd.underlying3 hz0), rfl, hB.frame _, fun h => by cases h⟩

theorem refuteValues_holds : Rows.RefuteValuesSaid :=
  OpenClaim.holds_of_wide 3 Tryd.f3 rfl rfl rfl rfl rfl rfl rfl ⟨rfl, rfl, rfl, rfl, rfl⟩ rfl rfl rfl rfl rfl (by kernel_rfl) Tryd.func3 (by kernel_rfl)
    (of_decide_eq_true (by kernel_rfl)) (by unfold Func.isWrapper; first | (rw [if_pos (by decide +kernel)]; kernel_rfl) | (rw [if_neg (by decide +kernel)]; exact ⟨rfl, rfl⟩))
    (fun os started H enc _ => refuteValues_lifted os started H enc)

theorem refuteValues_card : Rows.RefuteValuesCardSaid :=
  Claim7.holds_tied_plain_at .later [] [.data] true _ false
    refuteValues_holds (fun _ h => by cases h) (by kernel_rfl) (fun _ h => by cases h) refuteValues_row_tie rfl ⟨rfl, rfl⟩ (by kernel_rfl) rfl
    (fun f fn hf hfn => by
      obtain rfl : f = 3 := Option.some.inj ((show Tryd.prog.funcNamed "geoprover/geoproverlaw27.RefuteValues" = some 3 by kernel_rfl).symm.trans hf) |>.symm
      obtain rfl : fn = Tryd.f3 := (Option.some.inj (Tryd.func3.symm.trans hfn)).symm
      exact ⟨by kernel_rfl, fun j t ht => by
        rw [Tryd.params3] at ht
        have hm : t ∈ [3] := by simpa using Array.mem_of_getElem? ht
        have hall : ([3].all fun u => !Tryd.prog.wantsStandIn u) = true := by kernel_rfl
        exact (show Tryd.prog.wantsStandIn t = false by simpa using List.all_eq_true.1 hall t hm)⟩)
    (by kernel_rfl)

end Go.Proofs.YthkgldpcgmnaiaaDoor
