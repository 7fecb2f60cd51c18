/-
  Whatever the polynomial and the exponent are, the Go function PolyPowers returns true and leaves the polynomial as it is. Condition: the table of package math/bits holds what the program's text lays (the card ties it).
-/
import Derived.Test.YtceoegmflbgckaaGreatDoorMrX
import Derived.Test.YtceoegmflbgckaaGreatDoorMrV
import Derived.Test.YtceoegmflbgckaaGreatDoorMrS
import Derived.Test.YtceoegmflbgckaaGreatDoorMrR
import Derived.OpenShut
import Derived.ChangeMaps5
import Derived.Lib.LaidTab
import Derived.Deep.RegionHeld3
import Derived.Deep.DeepCutAuto

set_option linter.unusedVariables false
set_option linter.unusedSimpArgs false
namespace Go.Proofs.YtceoegmflbgckaaGreatDoor
open Go.ChangeShapes Go.WideShapes Go.ChangeAt Go.RowKit _root_.Nm
open Go Go.ChangeMaps
theorem nilPk : Pk 1 0 0 [] := ⟨NF.nil, fun t h => (by cases h), fun t h => (by cases h), Nat.le_refl _⟩
set_option maxHeartbeats 32000000 in
set_option maxRecDepth 100000 in
theorem polyPowers_walk {w : World} (T : Tb w) {p : Option Addr} {n c : Nat} {P : List Tm} {N1 N2 : Nat → Nat} (hP : IsR w p n c P N1 N2) (z : Int) :
    Calls Tryz.prog 5 #[.slice p n c, .int .i64 z] w fun e w' => e = .returned (.bool true) ∧ w.grownBy w' none := by
  have hmx := hP.max
  obtain ⟨b1, B1, V1⟩ := rSmall6_v T hP 3 3 8 (by omega) (by omega) (by omega)
  replace B1 := hid (show ∀ W, w.grownBy W none → Calls Tryz.prog 33 #[.slice p n c, .int .i64 3, .int .i64 3, .int .i64 8] W fun e w' => e = .returned (.bool b1) ∧ W.grownBy w' none from B1)
  have CAl := hid fun W (hg : w.grownBy W none) => alive6_v (T.keep hg)
  have HG := hid (grown_refl w none)
  cases b1
  · clear T hP V1
    go_enter Tryz.func5, Tryz.ntmps5
    go_wp2_with (first | (go_at_call 33; (with_reducible refine (B1.out _ HG.out).mono ?_); rintro e _ ⟨rfl, hg⟩; replace HG := hid (grown_trans HG.out hg); clear hg) | (go_at_call 11; (with_reducible refine (CAl.out _ HG.out).mono ?_); rintro e _ ⟨rfl, hg⟩; replace HG := hid (grown_trans HG.out hg); clear hg))
    go_ret
    exact ⟨rfl, HG.out⟩
  obtain ⟨hn, iP, nP, eP, dP, lP⟩ := V1 rfl
  have CD := hid fun W (hg : w.grownBy W none) => rDegree6_v (iP.keep hg) (eP.mono (by omega))
  obtain ⟨dd, hdd⟩ : ∃ x, x = mxF (fun xs => degZ xs) (-1) P := ⟨_, rfl⟩
  rw [← hdd] at CD
  clear hdd
  have hncap := iP.cap
  by_cases h6 : 6 < z
  · by_cases h4 : z ≤ 4000
    · by_cases h400 : 400 < z
      · clear T hP V1 iP nP eP dP lP
        go_enter Tryz.func5, Tryz.ntmps5
        go_wp2_with (first | (go_at_call 33; (with_reducible refine (B1.out _ HG.out).mono ?_); rintro e _ ⟨rfl, hg⟩; replace HG := hid (grown_trans HG.out hg); clear hg) | (go_at_call 34; (with_reducible refine (CD.out _ HG.out).mono ?_); rintro e _ ⟨rfl, hg⟩; replace HG := hid (grown_trans HG.out hg); clear hg) | (go_at_call 11; (with_reducible refine (CAl.out _ HG.out).mono ?_); rintro e _ ⟨rfl, hg⟩; replace HG := hid (grown_trans HG.out hg); clear hg))
        go_ret
        exact ⟨rfl, HG.out⟩
      by_cases hn1 : 1 < n
      · clear T hP V1 iP nP eP dP lP
        go_enter Tryz.func5, Tryz.ntmps5
        go_wp2_with (first | (go_at_call 33; (with_reducible refine (B1.out _ HG.out).mono ?_); rintro e _ ⟨rfl, hg⟩; replace HG := hid (grown_trans HG.out hg); clear hg) | (go_at_call 34; (with_reducible refine (CD.out _ HG.out).mono ?_); rintro e _ ⟨rfl, hg⟩; replace HG := hid (grown_trans HG.out hg); clear hg) | (go_at_call 11; (with_reducible refine (CAl.out _ HG.out).mono ?_); rintro e _ ⟨rfl, hg⟩; replace HG := hid (grown_trans HG.out hg); clear hg))
        go_ret
        exact ⟨rfl, HG.out⟩
      by_cases hd0 : 0 < dd
      · clear T hP V1 iP nP eP dP lP
        go_enter Tryz.func5, Tryz.ntmps5
        go_wp2_with (first | (go_at_call 33; (with_reducible refine (B1.out _ HG.out).mono ?_); rintro e _ ⟨rfl, hg⟩; replace HG := hid (grown_trans HG.out hg); clear hg) | (go_at_call 34; (with_reducible refine (CD.out _ HG.out).mono ?_); rintro e _ ⟨rfl, hg⟩; replace HG := hid (grown_trans HG.out hg); clear hg) | (go_at_call 11; (with_reducible refine (CAl.out _ HG.out).mono ?_); rintro e _ ⟨rfl, hg⟩; replace HG := hid (grown_trans HG.out hg); clear hg))
        go_ret
        exact ⟨rfl, HG.out⟩
      obtain ⟨k, rfl⟩ : ∃ k : Nat, z = (k : Int) := ⟨z.toNat, by omega⟩
      have hk : (k ≤ 6 ∧ n ≤ 3) ∨ (k ≤ 400 ∧ n ≤ 1) := Or.inr ⟨by omega, by omega⟩
      have CP := hid fun W (hg : w.grownBy W none) => pow6_v (T.keep hg) (iP.keep hg) nP dP eP hk
      have CRP := hid fun W (hg : w.grownBy W none) => rPow6_v (iP.keep hg) nP dP eP hk
      have HFI := hid (pow_final nP dP eP iP.len hk)
      clear T hP V1 iP nP eP dP lP
      go_enter Tryz.func5, Tryz.ntmps5
      go_wp2_with (first | (go_at_call 33; (with_reducible refine (B1.out _ HG.out).mono ?_); rintro e _ ⟨rfl, hg⟩; replace HG := hid (grown_trans HG.out hg); clear hg) | (go_at_call 34; (with_reducible refine (CD.out _ HG.out).mono ?_); rintro e _ ⟨rfl, hg⟩; replace HG := hid (grown_trans HG.out hg); clear hg) | (go_at_call 35; (with_reducible refine (CP.out _ HG.out).mono ?_); rintro e _ ⟨p1, n1, c1, rfl, hP1, hg⟩; have HP1 := hid hP1; replace HG := hid (grown_trans HG.out hg); clear hP1 hg) | (go_at_call 36; (with_reducible refine (CRP.out _ HG.out).mono ?_); rintro e _ ⟨p2, n2, c2, rfl, hP2, hg⟩; have HP2 := hid hP2; replace HP1 := hid (HP1.out.keep hg); replace HG := hid (grown_trans HG.out hg); clear hP2 hg) | (go_at_call 16; (with_reducible refine (HFI.out.req_c HP1.out HP2.out (by omega) ⟨by omega, by omega⟩).mono ?_); rintro e _ ⟨rfl, hg⟩; replace HG := hid (grown_trans HG.out hg); clear hg) | (go_at_call 11; (with_reducible refine (CAl.out _ HG.out).mono ?_); rintro e _ ⟨rfl, hg⟩; replace HG := hid (grown_trans HG.out hg); clear hg))
      go_ret
      exact ⟨rfl, HG.out⟩
    · have hzo : z < 0 ∨ 4000 < z := Or.inr (by omega)
      clear T hP V1 iP nP eP dP lP CD
      go_enter Tryz.func5, Tryz.ntmps5
      go_wp2_with (first | (go_at_call 33; (with_reducible refine (B1.out _ HG.out).mono ?_); rintro e _ ⟨rfl, hg⟩; replace HG := hid (grown_trans HG.out hg); clear hg) | (go_at_call 35; (with_reducible refine (powE_v hzo).mono ?_); rintro e _ ⟨rfl, hg⟩; replace HG := hid (grown_trans HG.out hg); clear hg) | (go_at_call 36; (with_reducible refine (rPowE_v hzo).mono ?_); rintro e _ ⟨rfl, hg⟩; replace HG := hid (grown_trans HG.out hg); clear hg) | (go_at_call 16; (with_reducible refine (nilPk.req_c (IsP.nil _) (IsP.nil _) (by omega) ⟨by omega, by omega⟩).mono ?_); rintro e _ ⟨rfl, hg⟩; replace HG := hid (grown_trans HG.out hg); clear hg) | (go_at_call 11; (with_reducible refine (CAl.out _ HG.out).mono ?_); rintro e _ ⟨rfl, hg⟩; replace HG := hid (grown_trans HG.out hg); clear hg))
      go_ret
      exact ⟨rfl, HG.out⟩
  · by_cases h0 : z < 0
    · have hzo : z < 0 ∨ 4000 < z := Or.inl h0
      clear T hP V1 iP nP eP dP lP CD
      go_enter Tryz.func5, Tryz.ntmps5
      go_wp2_with (first | (go_at_call 33; (with_reducible refine (B1.out _ HG.out).mono ?_); rintro e _ ⟨rfl, hg⟩; replace HG := hid (grown_trans HG.out hg); clear hg) | (go_at_call 35; (with_reducible refine (powE_v hzo).mono ?_); rintro e _ ⟨rfl, hg⟩; replace HG := hid (grown_trans HG.out hg); clear hg) | (go_at_call 36; (with_reducible refine (rPowE_v hzo).mono ?_); rintro e _ ⟨rfl, hg⟩; replace HG := hid (grown_trans HG.out hg); clear hg) | (go_at_call 16; (with_reducible refine (nilPk.req_c (IsP.nil _) (IsP.nil _) (by omega) ⟨by omega, by omega⟩).mono ?_); rintro e _ ⟨rfl, hg⟩; replace HG := hid (grown_trans HG.out hg); clear hg) | (go_at_call 11; (with_reducible refine (CAl.out _ HG.out).mono ?_); rintro e _ ⟨rfl, hg⟩; replace HG := hid (grown_trans HG.out hg); clear hg))
      go_ret
      exact ⟨rfl, HG.out⟩
    · obtain ⟨k, rfl⟩ : ∃ k : Nat, z = (k : Int) := ⟨z.toNat, by omega⟩
      have hk : (k ≤ 6 ∧ n ≤ 3) ∨ (k ≤ 400 ∧ n ≤ 1) := Or.inl ⟨by omega, hn⟩
      have CP := hid fun W (hg : w.grownBy W none) => pow6_v (T.keep hg) (iP.keep hg) nP dP eP hk
      have CRP := hid fun W (hg : w.grownBy W none) => rPow6_v (iP.keep hg) nP dP eP hk
      have HFI := hid (pow_final nP dP eP iP.len hk)
      clear T hP V1 iP nP eP dP lP
      go_enter Tryz.func5, Tryz.ntmps5
      go_wp2_with (first | (go_at_call 33; (with_reducible refine (B1.out _ HG.out).mono ?_); rintro e _ ⟨rfl, hg⟩; replace HG := hid (grown_trans HG.out hg); clear hg) | (go_at_call 34; (with_reducible refine (CD.out _ HG.out).mono ?_); rintro e _ ⟨rfl, hg⟩; replace HG := hid (grown_trans HG.out hg); clear hg) | (go_at_call 35; (with_reducible refine (CP.out _ HG.out).mono ?_); rintro e _ ⟨p1, n1, c1, rfl, hP1, hg⟩; have HP1 := hid hP1; replace HG := hid (grown_trans HG.out hg); clear hP1 hg) | (go_at_call 36; (with_reducible refine (CRP.out _ HG.out).mono ?_); rintro e _ ⟨p2, n2, c2, rfl, hP2, hg⟩; have HP2 := hid hP2; replace HP1 := hid (HP1.out.keep hg); replace HG := hid (grown_trans HG.out hg); clear hP2 hg) | (go_at_call 16; (with_reducible refine (HFI.out.req_c HP1.out HP2.out (by omega) ⟨by omega, by omega⟩).mono ?_); rintro e _ ⟨rfl, hg⟩; replace HG := hid (grown_trans HG.out hg); clear hg) | (go_at_call 11; (with_reducible refine (CAl.out _ HG.out).mono ?_); rintro e _ ⟨rfl, hg⟩; replace HG := hid (grown_trans HG.out hg); clear hg))
      go_ret
      exact ⟨rfl, HG.out⟩
theorem readPoly6 : Tryz.prog.readableRec 35 = true := by kernel_rfl
theorem rowPoly6 : 35 < Tryz.prog.types.size := of_decide_eq_true (by kernel_rfl)

theorem polyPowers_door (os : Os) (args : Array Value) : laidMetH Tryz.prog [("math/bits.deBruijn64tab", Rows.laid_math_bits_deBruijn64tab)] ((World.doorLaid Tryz.prog 400 os).forCall (fun _ _ => 0) ⟨#[], args, []⟩).memory :=
  laidMetH_of_parts3 (fuel := 8) (laidMet_of_run' 8 (by kernel_rfl) (by kernel_rfl)) (by kernel_rfl) (by kernel_rfl)

set_option maxRecDepth 100000 in
theorem polyPowers_lifted (os : Os) (started : os.Started) (H : Type) (enc : TypeId × Value → H) :
    ReturnsInHanded {} Tryz.checked os 5 .any (fun w args => (Rows.polyPowersSpec.pre enc Tryz.prog Tryz.f5 [] false w args ∧ laidMetH Tryz.prog [("math/bits.deBruijn64tab", Rows.laid_math_bits_deBruijn64tab)] w) ∧ sizedMet enc Tryz.prog Tryz.f5 (OpenSpec.ofChange Rows.polyPowersSpec) false w args)
      (Rows.polyPowersSpec.post enc Tryz.prog Tryz.f5 false true false false) := by
  refine returnsInHanded_of_change_and (C := Tryz.checked) (X := fun w _ => laidMetH Tryz.prog [("math/bits.deBruijn64tab", Rows.laid_math_bits_deBruijn64tab)] w) (fun _ _ _ hh h => h.of_heap hh) own1 started (by kernel_rfl) Tryz.func5
    (ChangeSpec.witness_shaped (enc := enc) (C := Tryz.checked) (os := os) (X := fun w _ => laidMetH Tryz.prog [("math/bits.deBruijn64tab", Rows.laid_math_bits_deBruijn64tab)] w) false (World.doorLaid Tryz.prog 400 os) #[.slice none 0 0, .int .i64 0] 8 rfl (World.shaped_of_RefB (by kernel_rfl) (by kernel_rfl)) (by kernel_rfl) (by kernel_rfl) (by kernel_rfl) (polyPowers_door os _)) ?_
  intro W base args ds gs before hval0 hW _ _ hL _
  have hval : ∀ (j : Nat) t v, Tryz.f5.params[j]? = some t → args[j]? = some v → Value.okWide Tryz.prog W .any base t v := hval0
  have hW' := hW
  obtain ⟨p, q, hA0, hV, rfl, hfz, hnd⟩ := hW
  have hA : DataW.TrodAll enc Tryz.prog W 0 (fun _ => true) true Tryz.f5.params.toList args.toList ds p := hA0
  rw [Tryz.params5] at hA hval
  obtain ⟨v0, v1, d0, d1, p0, p1, rfl, rfl, rfl, h0, h1⟩ := trodAll_two hA
  obtain ⟨rfl, rfl⟩ := trodVars_none hV
  have hlt : ∀ x ∈ p0 ++ (p1), x.block < W.heap.size := fun x hx => hW'.lt x (by simpa using hx)
  obtain ⟨a0, len0, cap0, rfl⟩ := okWide_slice Tryz.underlying35 (hval 0 35 v0 rfl rfl)
  obtain ⟨fuel0, hf0⟩ := h0
  obtain ⟨pp0, n0, c0, P0, N0, M0, hcp0, hR0⟩ := open_termsP Tryz.underlying35 hf0
  have hcq0 : Value.slice a0 len0 cap0 = .slice pp0 n0 c0 := by
    have h : [Value.slice a0 len0 cap0] = [Value.slice pp0 n0 c0] := hcp0
    exact (List.cons.inj h).1
  obtain ⟨z1, rfl, rfl, rfl, hz1⟩ := open_int Tryz.underlying3 (hval 1 3 v1 rfl rfl) h1
  have hw := polyPowers_walk (tb_of_laid hL) hR0 z1
  rw [← hcq0] at hw
  refine hw.mono fun e W' ⟨he, hg⟩ => ?_
  subst he
  have hB := grown_below hg
  exact ⟨_, rfl, _, _, _, [], _, [], hW', trodAll_mk1 (shut_bool Tryz.underlying4 true),
    trodAll_mk2 (Below.trod laidOut1 readPoly6 rowPoly6 ⟨fuel0, hf0⟩ hB fun x hx => hlt x (by simp [hx])) (shut_int Tryz.underlying3 hz1), rfl, hB.frame _, fun h => by cases h⟩

theorem polyPowers_holds : Rows.PolyPowersSaid :=
  OpenClaim.holds_of_wide 5 Tryz.f5 rfl rfl rfl rfl rfl rfl rfl ⟨rfl, rfl, rfl, rfl, rfl⟩ rfl rfl rfl rfl rfl (by kernel_rfl) Tryz.func5 (by kernel_rfl)
    (of_decide_eq_true (by kernel_rfl)) (by unfold Func.isWrapper; first | (rw [if_pos (by decide +kernel)]; kernel_rfl) | (rw [if_neg (by decide +kernel)]; exact ⟨rfl, rfl⟩))
    (fun os started H enc _ => polyPowers_lifted os started H enc)

theorem polyPowers_card : Rows.PolyPowersCardSaid :=
  Claim7.holds_tied_plain_at .later [] [.data] true _ false
    polyPowers_holds (fun _ h => by cases h) (by kernel_rfl) (fun _ h => by cases h) polyPowers_row_tie rfl ⟨rfl, rfl⟩ (by kernel_rfl) rfl
    (fun f fn hf hfn => by
      obtain rfl : f = 5 := Option.some.inj ((show Tryz.prog.funcNamed "geoprover/geoproverlaw06.PolyPowers" = some 5 by kernel_rfl).symm.trans hf) |>.symm
      obtain rfl : fn = Tryz.f5 := (Option.some.inj (Tryz.func5.symm.trans hfn)).symm
      exact ⟨by kernel_rfl, fun j t ht => by
        rw [Tryz.params5] at ht
        have hm : t ∈ [35, 3] := by simpa using Array.mem_of_getElem? ht
        have hall : ([35, 3].all fun u => !Tryz.prog.wantsStandIn u) = true := by kernel_rfl
        exact (show Tryz.prog.wantsStandIn t = false by simpa using List.all_eq_true.1 hall t hm)⟩)
    (by kernel_rfl)

end Go.Proofs.YtceoegmflbgckaaGreatDoor
