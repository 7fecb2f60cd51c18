/-
  Whatever the polynomial and the values are, the Go function PolyEvals returns true and leaves both as they are. Condition: the table of package math/bits holds what the program's text lays (the card ties it).
-/
import Derived.Test.YtknmdmofmcfjhaaGreatDoorMrZ
import Derived.Test.YtknmdmofmcfjhaaGreatDoorMrX
import Derived.Test.YtknmdmofmcfjhaaGreatDoorMrS
import Derived.Test.YtknmdmofmcfjhaaGreatDoorMrR
import Derived.OpenShut
import Derived.ChangeMaps5
import Derived.Lib.LaidTab
import Derived.Deep.RegionHeld3
import Derived.Deep.DeepCutAuto

set_option linter.unusedVariables false
set_option linter.unusedSimpArgs false
namespace Go.Proofs.YtknmdmofmcfjhaaGreatDoor
open Go.ChangeShapes Go.WideShapes Go.ChangeAt Go.RowKit _root_.Nm
open Go Go.ChangeMaps
set_option maxHeartbeats 32000000 in
set_option maxRecDepth 100000 in
theorem polyEvals_walk {w : World} (T : Tb w) {p : Option Addr} {n c : Nat} {P : List Tm} {N1 N2 : Nat → Nat} (hP : IsR w p n c P N1 N2) {pv : Option Addr} {nv cv : Nat} {V : List Rat} {M1 M2 : Nat → Nat} (hV : IsRR w pv nv cv V M1 M2) :
    Calls Tryz.prog 7 #[.slice p n c, .slice pv nv cv] w fun e w' => e = .returned (.bool true) ∧ w.grownBy w' none := by
  have hmx := hP.max; have hcv := hV.cap; have hmv := hV.max
  obtain ⟨b1, B1, V1⟩ := rSmall6_v T hP 8 5 8 (by omega) (by omega) (by omega)
  replace B1 := (show ∀ W, w.grownBy W none → Calls Tryz.prog 33 #[.slice p n c, .int .i64 8, .int .i64 5, .int .i64 8] W fun e w' => e = .returned (.bool b1) ∧ W.grownBy w' none from B1)
  have HFEW := hid (few1_v (blk0 w (.cells #[.slice p n c] 35 (0, 0))) (fun W h => B1 W (grown_trans (World.grownBy_alloc _ _ none) h)))
  have HG1 := hid (World.grownBy_alloc w (.cells #[.slice p n c] 35 (0, 0)) none)
  obtain ⟨b2, B2, V2⟩ := values6_v T hV
  replace B2 := hid B2
  have CAl := hid fun W (hg : w.grownBy W none) => alive6_v (T.keep hg)
  have HG := hid (grown_refl w none)
  clear B1
  cases b1
  · clear T hP V1 hV V2
    go_enter Tryz.func7, Tryz.ntmps7
    go_wp2_with (first | (go_at_call 18; (with_reducible refine HFEW.out.mono ?_); rintro e _ ⟨rfl, hg⟩; replace HG := hid (grown_trans HG1.out hg); clear hg) | (go_at_call 44; (with_reducible refine (B2.out _ HG.out).mono ?_); rintro e _ ⟨rfl, hg⟩; replace HG := hid (grown_trans HG.out hg); clear hg) | (go_at_call 11; (with_reducible refine (CAl.out _ HG.out).mono ?_); rintro e _ ⟨rfl, hg⟩; replace HG := hid (grown_trans HG.out hg); clear hg))
    go_ret
    exact ⟨rfl, HG.out⟩
  cases b2
  · clear T hP V1 hV V2
    go_enter Tryz.func7, Tryz.ntmps7
    go_wp2_with (first | (go_at_call 18; (with_reducible refine HFEW.out.mono ?_); rintro e _ ⟨rfl, hg⟩; replace HG := hid (grown_trans HG1.out hg); clear hg) | (go_at_call 44; (with_reducible refine (B2.out _ HG.out).mono ?_); rintro e _ ⟨rfl, hg⟩; replace HG := hid (grown_trans HG.out hg); clear hg) | (go_at_call 11; (with_reducible refine (CAl.out _ HG.out).mono ?_); rintro e _ ⟨rfl, hg⟩; replace HG := hid (grown_trans HG.out hg); clear hg))
    go_ret
    exact ⟨rfl, HG.out⟩
  obtain ⟨hn, iP, nP, eP, dP, lP⟩ := V1 rfl
  obtain ⟨hv6, iV, bV⟩ := V2 rfl
  by_cases hok : ∀ t ∈ P, t.1.length ≤ nv
  · have CE := hid fun W (hg : w.grownBy W none) => eval6_v (T.keep hg) (iP.keep hg) nP dP eP lP hn (iV.keep hg) bV hok
    have CR := hid fun W (hg : w.grownBy W none) => rEval6_v (iP.keep hg) dP eP lP hn (iV.keep hg) bV hok
    obtain ⟨z, hz⟩ : ∃ z, z = sm V P n := ⟨_, rfl⟩
    rw [← hz] at CE CR
    clear T hP V1 hV V2 iP nP eP dP lP iV bV hok hz
    go_enter Tryz.func7, Tryz.ntmps7
    go_upto_region 4 with (first | (go_at_call 18; (with_reducible refine HFEW.out.mono ?_); rintro e _ ⟨rfl, hg⟩; replace HG := hid (grown_trans HG1.out hg); clear hg) | (go_at_call 44; (with_reducible refine (B2.out _ HG.out).mono ?_); rintro e _ ⟨rfl, hg⟩; replace HG := hid (grown_trans HG.out hg); clear hg) | (go_at_call 45; (with_reducible refine (CE.out _ HG.out).mono ?_); rintro e w1 ⟨g1, p1, n1, c1, q1, m1, d1, rfl, hV1, hg⟩; replace HG := hid (grown_trans HG.out hg); have HV1 := hid hV1; clear hV1; clear hg; have gB := World.grownBy_alloc w1 (.cells #[.bool g1, .slice p1 n1 c1, .slice q1 m1 d1] 29 (0, 0)) none; have BB := hid (blk0 w1 (.cells #[.bool g1, .slice p1 n1 c1, .slice q1 m1 d1] 29 (0, 0))); obtain ⟨i0, i1, i2⟩ := box3p (blk0 w1 (.cells #[.bool false, .slice none 0 0, .slice none 0 0] 29 (0, 0))); have fa := fun o => frozen_of_row (w1.alloc (.cells #[.bool false, .slice none 0 0, .slice none 0 0] 29 (0, 0))) w1.heap.size o _ _ (blk0 w1 (.cells #[.bool false, .slice none 0 0, .slice none 0 0] 29 (0, 0))); have f0 := fa 0; have f1 := fa 1; have f2 := fa 2; clear fa))
    clear i0 i1 i2 f0 f1 f2
    obtain ⟨b5, hb5⟩ : ∃ x, x = w1.heap.size := ⟨_, rfl⟩
    rw [← hb5] at BB ⊢
    replace HG := hid (grown_trans HG.out gB); replace HV1 := hid (HV1.out.keep gB); skip
    have B5 := BB
    clear gB BB hb5
    generalize w1.alloc _ = w1b at *
    go_upto_region 5 with (go_at_call 46; (with_reducible refine (CR.out _ HG.out).mono ?_); rintro e w2 ⟨g2, p2, n2, c2, q2, m2, d2, rfl, hV2, hg⟩; replace HG := hid (grown_trans HG.out hg); have HV2 := hid hV2; clear hV2; replace B5 := hid (keepB B5.out hg); replace HV1 := hid (HV1.out.keep hg); clear hg; have gB := World.grownBy_alloc w2 (.cells #[.bool g2, .slice p2 n2 c2, .slice q2 m2 d2] 29 (0, 0)) none; have BB := hid (blk0 w2 (.cells #[.bool g2, .slice p2 n2 c2, .slice q2 m2 d2] 29 (0, 0))); obtain ⟨i0, i1, i2⟩ := box3p (blk0 w2 (.cells #[.bool false, .slice none 0 0, .slice none 0 0] 29 (0, 0))); have fa := fun o => frozen_of_row (w2.alloc (.cells #[.bool false, .slice none 0 0, .slice none 0 0] 29 (0, 0))) w2.heap.size o _ _ (blk0 w2 (.cells #[.bool false, .slice none 0 0, .slice none 0 0] 29 (0, 0))); have f0 := fa 0; have f1 := fa 1; have f2 := fa 2; clear fa)
    clear i0 i1 i2 f0 f1 f2
    obtain ⟨b7, hb7⟩ : ∃ x, x = w2.heap.size := ⟨_, rfl⟩
    rw [← hb7] at BB ⊢
    replace HG := hid (grown_trans HG.out gB); replace HV1 := hid (HV1.out.keep gB); replace HV2 := hid (HV2.out.keep gB); skip
    replace B5 := hid (keepB B5.out gB)
    clear gB hb7
    generalize w2.alloc _ = w2b at *
    obtain ⟨k0, k1, k2⟩ := box3p B5.out
    obtain ⟨l0, l1, l2⟩ := box3p BB.out
    clear B5 BB
    go_wp2_with (first | (go_at_call 43; (with_reducible refine (same3_v HV1.out HV2.out rfl).mono ?_); rintro e _ ⟨rfl, hg⟩; replace HG := hid (grown_trans HG.out hg); clear hg) | (go_at_call 11; (with_reducible refine (CAl.out _ HG.out).mono ?_); rintro e _ ⟨rfl, hg⟩; replace HG := hid (grown_trans HG.out hg); clear hg))
    go_ret
    exact ⟨rfl, HG.out⟩
  · have CE := hid fun W (hg : w.grownBy W none) => evalE_v (pv := pv) (iP.keep hg) eP hcv hmv hok
    have CR := hid fun W (hg : w.grownBy W none) => rEvalE_v (pv := pv) (iP.keep hg) hcv hmv hok
    clear T hP V1 hV V2 iP nP eP dP lP iV bV hok
    go_enter Tryz.func7, Tryz.ntmps7
    go_upto_region 4 with (first | (go_at_call 18; (with_reducible refine HFEW.out.mono ?_); rintro e _ ⟨rfl, hg⟩; replace HG := hid (grown_trans HG1.out hg); clear hg) | (go_at_call 44; (with_reducible refine (B2.out _ HG.out).mono ?_); rintro e _ ⟨rfl, hg⟩; replace HG := hid (grown_trans HG.out hg); clear hg) | (go_at_call 45; (with_reducible refine (CE.out _ HG.out).mono ?_); rintro e w1 ⟨rfl, hg⟩; replace HG := hid (grown_trans HG.out hg); clear hg; have gB := World.grownBy_alloc w1 (.cells #[.bool false, .slice none 0 0, .slice none 0 0] 29 (0, 0)) none; have BB := hid (blk0 w1 (.cells #[.bool false, .slice none 0 0, .slice none 0 0] 29 (0, 0))); obtain ⟨i0, i1, i2⟩ := box3p (blk0 w1 (.cells #[.bool false, .slice none 0 0, .slice none 0 0] 29 (0, 0))); have fa := fun o => frozen_of_row (w1.alloc (.cells #[.bool false, .slice none 0 0, .slice none 0 0] 29 (0, 0))) w1.heap.size o _ _ (blk0 w1 (.cells #[.bool false, .slice none 0 0, .slice none 0 0] 29 (0, 0))); have f0 := fa 0; have f1 := fa 1; have f2 := fa 2; clear fa))
    clear i0 i1 i2 f0 f1 f2
    obtain ⟨b5, hb5⟩ : ∃ x, x = w1.heap.size := ⟨_, rfl⟩
    rw [← hb5] at BB ⊢
    replace HG := hid (grown_trans HG.out gB); skip
    have B5 := BB
    clear gB BB hb5
    generalize w1.alloc _ = w1b at *
    go_upto_region 5 with (go_at_call 46; (with_reducible refine (CR.out _ HG.out).mono ?_); rintro e w2 ⟨rfl, hg⟩; replace HG := hid (grown_trans HG.out hg); replace B5 := hid (keepB B5.out hg); clear hg; have gB := World.grownBy_alloc w2 (.cells #[.bool false, .slice none 0 0, .slice none 0 0] 29 (0, 0)) none; have BB := hid (blk0 w2 (.cells #[.bool false, .slice none 0 0, .slice none 0 0] 29 (0, 0))); obtain ⟨i0, i1, i2⟩ := box3p (blk0 w2 (.cells #[.bool false, .slice none 0 0, .slice none 0 0] 29 (0, 0))); have fa := fun o => frozen_of_row (w2.alloc (.cells #[.bool false, .slice none 0 0, .slice none 0 0] 29 (0, 0))) w2.heap.size o _ _ (blk0 w2 (.cells #[.bool false, .slice none 0 0, .slice none 0 0] 29 (0, 0))); have f0 := fa 0; have f1 := fa 1; have f2 := fa 2; clear fa)
    clear i0 i1 i2 f0 f1 f2
    obtain ⟨b7, hb7⟩ : ∃ x, x = w2.heap.size := ⟨_, rfl⟩
    rw [← hb7] at BB ⊢
    replace HG := hid (grown_trans HG.out gB); skip
    replace B5 := hid (keepB B5.out gB)
    clear gB hb7
    generalize w2.alloc _ = w2b at *
    obtain ⟨k0, k1, k2⟩ := box3p B5.out
    obtain ⟨l0, l1, l2⟩ := box3p BB.out
    clear B5 BB
    go_wp2_with (first | (go_at_call 43; (with_reducible refine (same3_any (IsI.zero _) (IsC.nil _) (IsI.zero _) (IsC.nil _) rfl rfl).mono ?_); rintro e _ ⟨rfl, hg⟩; replace HG := hid (grown_trans HG.out hg); clear hg) | (go_at_call 11; (with_reducible refine (CAl.out _ HG.out).mono ?_); rintro e _ ⟨rfl, hg⟩; replace HG := hid (grown_trans HG.out hg); clear hg))
    go_ret
    exact ⟨rfl, HG.out⟩
theorem readPoly6 : Tryz.prog.readableRec 35 = true := by kernel_rfl
theorem rowPoly6 : 35 < Tryz.prog.types.size := of_decide_eq_true (by kernel_rfl)
theorem readRats6 : Tryz.prog.readableRec 57 = true := by kernel_rfl
theorem rowRats6 : 57 < Tryz.prog.types.size := of_decide_eq_true (by kernel_rfl)

theorem polyEvals_door (os : Os) (args : Array Value) : laidMetH Tryz.prog [("math/bits.deBruijn64tab", Rows.laid_math_bits_deBruijn64tab)] ((World.doorLaid Tryz.prog 400 os).forCall (fun _ _ => 0) ⟨#[], args, []⟩).memory :=
  laidMetH_of_parts3 (fuel := 8) (laidMet_of_run' 8 (by kernel_rfl) (by kernel_rfl)) (by kernel_rfl) (by kernel_rfl)

set_option maxRecDepth 100000 in
theorem polyEvals_lifted (os : Os) (started : os.Started) (H : Type) (enc : TypeId × Value → H) :
    ReturnsInHanded {} Tryz.checked os 7 .any (fun w args => (Rows.polyEvalsSpec.pre enc Tryz.prog Tryz.f7 [] false w args ∧ laidMetH Tryz.prog [("math/bits.deBruijn64tab", Rows.laid_math_bits_deBruijn64tab)] w) ∧ sizedMet enc Tryz.prog Tryz.f7 (OpenSpec.ofChange Rows.polyEvalsSpec) false w args)
      (Rows.polyEvalsSpec.post enc Tryz.prog Tryz.f7 false true false false) := by
  refine returnsInHanded_of_change_and (C := Tryz.checked) (X := fun w _ => laidMetH Tryz.prog [("math/bits.deBruijn64tab", Rows.laid_math_bits_deBruijn64tab)] w) (fun _ _ _ hh h => h.of_heap hh) own1 started (by kernel_rfl) Tryz.func7
    (ChangeSpec.witness_shaped (enc := enc) (C := Tryz.checked) (os := os) (X := fun w _ => laidMetH Tryz.prog [("math/bits.deBruijn64tab", Rows.laid_math_bits_deBruijn64tab)] w) false (World.doorLaid Tryz.prog 400 os) #[.slice none 0 0, .slice none 0 0] 8 rfl (World.shaped_of_RefB (by kernel_rfl) (by kernel_rfl)) (by kernel_rfl) (by kernel_rfl) (by kernel_rfl) (polyEvals_door os _)) ?_
  intro W base args ds gs before hval0 hW _ _ hL _
  have hval : ∀ (j : Nat) t v, Tryz.f7.params[j]? = some t → args[j]? = some v → Value.okWide Tryz.prog W .any base t v := hval0
  have hW' := hW
  obtain ⟨p, q, hA0, hV, rfl, hfz, hnd⟩ := hW
  have hA : DataW.TrodAll enc Tryz.prog W 0 (fun _ => true) true Tryz.f7.params.toList args.toList ds p := hA0
  rw [Tryz.params7] at hA hval
  obtain ⟨v0, v1, d0, d1, p0, p1, rfl, rfl, rfl, h0, h1⟩ := trodAll_two hA
  obtain ⟨rfl, rfl⟩ := trodVars_none hV
  have hlt : ∀ x ∈ p0 ++ (p1), x.block < W.heap.size := fun x hx => hW'.lt x (by simpa using hx)
  obtain ⟨a0, len0, cap0, rfl⟩ := okWide_slice Tryz.underlying35 (hval 0 35 v0 rfl rfl)
  obtain ⟨fuel0, hf0⟩ := h0
  obtain ⟨pp0, n0, c0, P0, N0, M0, hcp0, hR0⟩ := open_termsP Tryz.underlying35 hf0
  have hcq0 : Value.slice a0 len0 cap0 = .slice pp0 n0 c0 := by
    have h : [Value.slice a0 len0 cap0] = [Value.slice pp0 n0 c0] := hcp0
    exact (List.cons.inj h).1
  obtain ⟨a1, len1, cap1, rfl⟩ := okWide_slice Tryz.underlying57 (hval 1 57 v1 rfl rfl)
  obtain ⟨fuel1, hf1⟩ := h1
  obtain ⟨pp1, n1, c1, V1, N1, M1, hcp1, hR1⟩ := open_ratsP Tryz.underlying57 hf1
  have hcq1 : Value.slice a1 len1 cap1 = .slice pp1 n1 c1 := by
    have h : [Value.slice a1 len1 cap1] = [Value.slice pp1 n1 c1] := hcp1
    exact (List.cons.inj h).1
  have hw := polyEvals_walk (tb_of_laid hL) hR0 hR1
  rw [← hcq0, ← hcq1] at hw
  refine hw.mono fun e W' ⟨he, hg⟩ => ?_
  subst he
  have hB := grown_below hg
  exact ⟨_, rfl, _, _, _, [], _, [], hW', trodAll_mk1 (shut_bool Tryz.underlying4 true),
    trodAll_mk2 (Below.trod laidOut1 readPoly6 rowPoly6 ⟨fuel0, hf0⟩ hB fun x hx => hlt x (by simp [hx])) (Below.trod laidOut1 readRats6 rowRats6 ⟨fuel1, hf1⟩ hB fun x hx => hlt x (by simp [hx])), rfl, hB.frame _, fun h => by cases h⟩

theorem polyEvals_holds : Rows.PolyEvalsSaid :=
  OpenClaim.holds_of_wide 7 Tryz.f7 rfl rfl rfl rfl rfl rfl rfl ⟨rfl, rfl, rfl, rfl, rfl⟩ rfl rfl rfl rfl rfl (by kernel_rfl) Tryz.func7 (by kernel_rfl)
    (of_decide_eq_true (by kernel_rfl)) (by unfold Func.isWrapper; first | (rw [if_pos (by decide +kernel)]; kernel_rfl) | (rw [if_neg (by decide +kernel)]; exact ⟨rfl, rfl⟩))
    (fun os started H enc _ => polyEvals_lifted os started H enc)

theorem polyEvals_card : Rows.PolyEvalsCardSaid :=
  Claim7.holds_tied_plain_at .later [] [.data] true _ false
    polyEvals_holds (fun _ h => by cases h) (by kernel_rfl) (fun _ h => by cases h) polyEvals_row_tie rfl ⟨rfl, rfl⟩ (by kernel_rfl) rfl
    (fun f fn hf hfn => by
      obtain rfl : f = 7 := Option.some.inj ((show Tryz.prog.funcNamed "geoprover/geoproverlaw06.PolyEvals" = some 7 by kernel_rfl).symm.trans hf) |>.symm
      obtain rfl : fn = Tryz.f7 := (Option.some.inj (Tryz.func7.symm.trans hfn)).symm
      exact ⟨by kernel_rfl, fun j t ht => by
        rw [Tryz.params7] at ht
        have hm : t ∈ [35, 57] := by simpa using Array.mem_of_getElem? ht
        have hall : ([35, 57].all fun u => !Tryz.prog.wantsStandIn u) = true := by kernel_rfl
        exact (show Tryz.prog.wantsStandIn t = false by simpa using List.all_eq_true.1 hall t hm)⟩)
    (by kernel_rfl)

end Go.Proofs.YtknmdmofmcfjhaaGreatDoor
