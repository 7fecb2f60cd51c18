/-
  Whatever the three polynomials are, the Go function PolyRing returns true and leaves them as they are. Condition: the table of package math/bits holds what the program's text lays (the card ties it).
-/
import Derived.Test.YtceoegmflbgckaaGreatDoorMrS
import Derived.Test.YtceoegmflbgckaaGreatDoorMrR
import Derived.OpenShut
import Derived.ChangeMaps5
import Derived.Lib.LaidTab
import Derived.Deep.RegionHeld3
import Derived.Deep.DeepCutAuto

set_option linter.unusedVariables false
set_option linter.unusedSimpArgs false
namespace Go.Proofs.YtceoegmflbgckaaGreatDoor
open Go.ChangeShapes Go.WideShapes Go.ChangeAt Go.RowKit _root_.Nm
open Go Go.ChangeMaps
set_option maxHeartbeats 32000000 in
set_option maxRecDepth 100000 in
theorem polyRing_walk {w : World} (T : Tb w) {p q s : Option Addr} {n c m d k e : Nat} {P Q S : List Tm} {N1 N2 M1 M2 K1 K2 : Nat → Nat} (hP : IsR w p n c P N1 N2) (hQ : IsR w q m d Q M1 M2) (hS : IsR w s k e S K1 K2) :
    Calls Tryz.prog 9 #[.slice p n c, .slice q m d, .slice s k e] w fun e w' => e = .returned (.bool true) ∧ w.grownBy w' none := by
  obtain ⟨b1, B1, V1⟩ := rSmall6_v T hP 5 4 4 (by omega) (by omega) (by omega)
  obtain ⟨b2, B2, V2⟩ := rSmall6_v T hQ 5 4 4 (by omega) (by omega) (by omega)
  obtain ⟨b3, B3, V3⟩ := rSmall6_v T hS 5 4 4 (by omega) (by omega) (by omega)
  replace B1 := hid (show ∀ W, w.grownBy W none → Calls Tryz.prog 33 #[.slice p n c, .int .i64 5, .int .i64 4, .int .i64 4] W fun e w' => e = .returned (.bool b1) ∧ W.grownBy w' none from B1)
  replace B2 := hid (show ∀ W, w.grownBy W none → Calls Tryz.prog 33 #[.slice q m d, .int .i64 5, .int .i64 4, .int .i64 4] W fun e w' => e = .returned (.bool b2) ∧ W.grownBy w' none from B2)
  replace B3 := hid (show ∀ W, w.grownBy W none → Calls Tryz.prog 33 #[.slice s k e, .int .i64 5, .int .i64 4, .int .i64 4] W fun e w' => e = .returned (.bool b3) ∧ W.grownBy w' none from B3)
  have CAl := hid fun W (hg : w.grownBy W none) => alive6_v (T.keep hg)
  have HG := hid (grown_refl w none)
  cases b1
  · clear T hP hQ hS V1 V2 V3
    go_enter Tryz.func9, Tryz.ntmps9
    go_wp2_with (first
      | (go_at_call 33; (with_reducible refine (B1.out _ HG.out).mono ?_); rintro e _ ⟨rfl, hg⟩; replace HG := hid (grown_trans HG.out hg); (try replace HP := hid (HP.out.keep hg)); (try replace HQ := hid (HQ.out.keep hg)); (try replace HS := hid (HS.out.keep hg)); clear hg)
      | (go_at_call 11; (with_reducible refine (CAl.out _ HG.out).mono ?_); rintro e _ ⟨rfl, hg⟩; replace HG := hid (grown_trans HG.out hg); clear hg))
    go_ret
    exact ⟨rfl, HG.out⟩
  cases b2
  · clear T hP hQ hS V1 V2 V3
    go_enter Tryz.func9, Tryz.ntmps9
    go_wp2_with (first
      | (go_at_call 33; (with_reducible refine (B1.out _ HG.out).mono ?_); rintro e _ ⟨rfl, hg⟩; replace HG := hid (grown_trans HG.out hg); (try replace HP := hid (HP.out.keep hg)); (try replace HQ := hid (HQ.out.keep hg)); (try replace HS := hid (HS.out.keep hg)); clear hg)
      | (go_at_call 33; (with_reducible refine (B2.out _ HG.out).mono ?_); rintro e _ ⟨rfl, hg⟩; replace HG := hid (grown_trans HG.out hg); (try replace HP := hid (HP.out.keep hg)); (try replace HQ := hid (HQ.out.keep hg)); (try replace HS := hid (HS.out.keep hg)); clear hg)
      | (go_at_call 11; (with_reducible refine (CAl.out _ HG.out).mono ?_); rintro e _ ⟨rfl, hg⟩; replace HG := hid (grown_trans HG.out hg); clear hg))
    go_ret
    exact ⟨rfl, HG.out⟩
  cases b3
  · clear T hP hQ hS V1 V2 V3
    go_enter Tryz.func9, Tryz.ntmps9
    go_wp2_with (first
      | (go_at_call 33; (with_reducible refine (B1.out _ HG.out).mono ?_); rintro e _ ⟨rfl, hg⟩; replace HG := hid (grown_trans HG.out hg); (try replace HP := hid (HP.out.keep hg)); (try replace HQ := hid (HQ.out.keep hg)); (try replace HS := hid (HS.out.keep hg)); clear hg)
      | (go_at_call 33; (with_reducible refine (B2.out _ HG.out).mono ?_); rintro e _ ⟨rfl, hg⟩; replace HG := hid (grown_trans HG.out hg); (try replace HP := hid (HP.out.keep hg)); (try replace HQ := hid (HQ.out.keep hg)); (try replace HS := hid (HS.out.keep hg)); clear hg)
      | (go_at_call 33; (with_reducible refine (B3.out _ HG.out).mono ?_); rintro e _ ⟨rfl, hg⟩; replace HG := hid (grown_trans HG.out hg); (try replace HP := hid (HP.out.keep hg)); (try replace HQ := hid (HQ.out.keep hg)); (try replace HS := hid (HS.out.keep hg)); clear hg)
      | (go_at_call 11; (with_reducible refine (CAl.out _ HG.out).mono ?_); rintro e _ ⟨rfl, hg⟩; replace HG := hid (grown_trans HG.out hg); clear hg))
    go_ret
    exact ⟨rfl, HG.out⟩
  obtain ⟨hn, iP, nP, eP, dP, lP⟩ := V1 rfl
  obtain ⟨hm, iQ, nQ, eQ, dQ, lQ⟩ := V2 rfl
  obtain ⟨hk, iS, nS, eS, dS, lS⟩ := V3 rfl
  have kP : Pk 4 4 5 P := ⟨nP, dP, eP, by have := iP.len; omega⟩
  have kQ : Pk 4 4 5 Q := ⟨nQ, dQ, eQ, by have := iQ.len; omega⟩
  have kS0 : Pk 4 4 5 S := ⟨nS, dS, eS, by have := iS.len; omega⟩
  have hRP := hP
  have hNP : ∀ i, i < n → N1 i ≤ 4 ∧ N2 i ≤ 4 := hP.short iP dP
  have kS := kP.add kQ
  have kS2 := kQ.add kP
  have kM := kP.mul (by omega) kQ
  have kM2 := kQ.mul (by omega) kP
  have kD := kS.sub2 (kQ.mono (K := 4 + 4 + 1) (by omega) (Int.le_refl _) (Nat.le_refl _))
  have kQS := kQ.mul (by omega) kS0
  have kPS := kP.mul (by omega) kS0
  have kA1 := kM.mul (by omega) (kS0.mono (K := 5 * (4 + 4 + 1)) (C := 4 + 4) (by omega) (by omega) (Nat.le_refl _))
  have kA2 := ((kP.mono (K := 5 * (4 + 4 + 1)) (C := 4 + 4) (by omega) (by omega) (Nat.le_refl _)).mul (by omega) kQS).mono (K := 5 * 5 * (5 * (4 + 4 + 1) + 5 * (4 + 4 + 1) + 1)) (C := 4 + 4 + (4 + 4)) (by omega) (by omega) (Nat.le_refl _)
  have kB1 := kS.mul (by omega) (kS0.mono (K := 4 + 4 + 1) (by omega) (Int.le_refl _) (Nat.le_refl _))
  have kB2 := (kPS.add kQS).mono (K := (5 + 5) * (4 + 4 + 1 + (4 + 4 + 1) + 1)) (C := 4 + 4) (by omega) (by omega) (Nat.le_refl _)
  have CAdd := hid fun W p0 n0 c0 p1 n1 c1 (hg : w.grownBy W none) (h0 : IsP W p0 n0 c0 P) (h1 : IsP W p1 n1 c1 Q) => kP.add_c kQ (T.keep hg) h0 h1 (by omega) ⟨by omega, by omega⟩ (by omega)
  have CMul := hid fun W p0 n0 c0 p1 n1 c1 (hg : w.grownBy W none) (h0 : IsP W p0 n0 c0 P) (h1 : IsP W p1 n1 c1 Q) => kP.mul_c kQ (T.keep hg) h0 h1 (by omega) ⟨by omega, by omega⟩ (by omega) (by omega) (by omega)
  have CRS := hid fun W p0 n0 c0 (hg : w.grownBy W none) (h0 : IsP W p0 n0 c0 (addP P Q)) => kS.right_c (T.keep hg) h0 (by omega) (by omega)
  have CRM := hid fun W p0 n0 c0 (hg : w.grownBy W none) (h0 : IsP W p0 n0 c0 (mulP P Q)) => kM.right_c (T.keep hg) h0 (by omega) (by omega)
  have CAdd2 := hid fun W p0 n0 c0 p1 n1 c1 (hg : w.grownBy W none) (h0 : IsP W p0 n0 c0 Q) (h1 : IsP W p1 n1 c1 P) => kQ.add_c kP (T.keep hg) h0 h1 (by omega) ⟨by omega, by omega⟩ (by omega)
  have CEq2 := hid fun W p0 n0 c0 p1 n1 c1 (hg : w.grownBy W none) (h0 : IsP W p0 n0 c0 (addP P Q)) (h1 : IsP W p1 n1 c1 (addP Q P)) => kS.eq_c kS2 h0 h1 (by omega) ⟨by omega, by omega⟩ (addP_comm kP.nf kQ.nf)
  have CMul2 := hid fun W p0 n0 c0 p1 n1 c1 (hg : w.grownBy W none) (h0 : IsP W p0 n0 c0 Q) (h1 : IsP W p1 n1 c1 P) => kQ.mul_c kP (T.keep hg) h0 h1 (by omega) ⟨by omega, by omega⟩ (by omega) (by omega) (by omega)
  have CEq3 := hid fun W p0 n0 c0 p1 n1 c1 (hg : w.grownBy W none) (h0 : IsP W p0 n0 c0 (mulP P Q)) (h1 : IsP W p1 n1 c1 (mulP Q P)) => kM.eq_c kM2 h0 h1 (by omega) ⟨by omega, by omega⟩ (mulP_comm kP.nf kQ.nf)
  have CNrm := hid fun W (hg : w.grownBy W none) => by have := norm6_v 4 (T.keep hg) (hRP.keep hg) (by omega) (by omega) (by omega) hNP; rwa [normP_id kP.nf (kP.ex.mono (C := 1048576) (by omega))] at this
  have CEq4 := hid fun W p0 n0 c0 p1 n1 c1 (hg : w.grownBy W none) (h0 : IsP W p0 n0 c0 P) (h1 : IsP W p1 n1 c1 P) => kP.eq_c kP h0 h1 (by omega) ⟨by omega, by omega⟩ rfl
  have CSub := hid fun W p0 n0 c0 p1 n1 c1 (hg : w.grownBy W none) (h0 : IsP W p0 n0 c0 (addP P Q)) (h1 : IsP W p1 n1 c1 Q) => kS.sub_c (kQ.mono (by omega) (by omega) (Nat.le_refl _)) (T.keep hg) h0 h1 (by omega) ⟨by omega, by omega⟩ (by omega)
  have CEq5 := hid fun W p0 n0 c0 p1 n1 c1 (hg : w.grownBy W none) (h0 : IsP W p0 n0 c0 (addP (addP P Q) (negP Q))) (h1 : IsP W p1 n1 c1 P) => kD.eq_c (kP.mono (by omega) (by omega) (Nat.le_refl _)) h0 h1 (by omega) ⟨by omega, by omega⟩ (add_sub kP.nf kQ.nf)
  have CMul3 := hid fun W p0 n0 c0 p1 n1 c1 (hg : w.grownBy W none) (h0 : IsP W p0 n0 c0 (mulP P Q)) (h1 : IsP W p1 n1 c1 S) => kM.mul_c (kS0.mono (K := 45) (C := 8) (by omega) (by omega) (Nat.le_refl _)) (T.keep hg) h0 h1 (by omega) ⟨by omega, by omega⟩ (by omega) (by omega) (by omega)
  have CMul4 := hid fun W p0 n0 c0 p1 n1 c1 (hg : w.grownBy W none) (h0 : IsP W p0 n0 c0 Q) (h1 : IsP W p1 n1 c1 S) => kQ.mul_c kS0 (T.keep hg) h0 h1 (by omega) ⟨by omega, by omega⟩ (by omega) (by omega) (by omega)
  have CMul5 := hid fun W p0 n0 c0 p1 n1 c1 (hg : w.grownBy W none) (h0 : IsP W p0 n0 c0 P) (h1 : IsP W p1 n1 c1 (mulP Q S)) => (kP.mono (K := 45) (C := 8) (by omega) (by omega) (Nat.le_refl _)).mul_c kQS (T.keep hg) h0 h1 (by omega) ⟨by omega, by omega⟩ (by omega) (by omega) (by omega)
  have CEq6 := hid fun W p0 n0 c0 p1 n1 c1 (hg : w.grownBy W none) (h0 : IsP W p0 n0 c0 (mulP (mulP P Q) S)) (h1 : IsP W p1 n1 c1 (mulP P (mulP Q S))) => kA1.eq_c kA2 h0 h1 (by omega) ⟨by omega, by omega⟩ (mulP_assoc kP.nf kQ.nf kS0.nf)
  have CMul6 := hid fun W p0 n0 c0 p1 n1 c1 (hg : w.grownBy W none) (h0 : IsP W p0 n0 c0 (addP P Q)) (h1 : IsP W p1 n1 c1 S) => kS.mul_c (kS0.mono (K := 9) (C := 4) (by omega) (by omega) (Nat.le_refl _)) (T.keep hg) h0 h1 (by omega) ⟨by omega, by omega⟩ (by omega) (by omega) (by omega)
  have CMul7 := hid fun W p0 n0 c0 p1 n1 c1 (hg : w.grownBy W none) (h0 : IsP W p0 n0 c0 P) (h1 : IsP W p1 n1 c1 S) => kP.mul_c kS0 (T.keep hg) h0 h1 (by omega) ⟨by omega, by omega⟩ (by omega) (by omega) (by omega)
  have CAdd3 := hid fun W p0 n0 c0 p1 n1 c1 (hg : w.grownBy W none) (h0 : IsP W p0 n0 c0 (mulP P S)) (h1 : IsP W p1 n1 c1 (mulP Q S)) => kPS.add_c kQS (T.keep hg) h0 h1 (by omega) ⟨by omega, by omega⟩ (by omega)
  have CEq7 := hid fun W p0 n0 c0 p1 n1 c1 (hg : w.grownBy W none) (h0 : IsP W p0 n0 c0 (mulP (addP P Q) S)) (h1 : IsP W p1 n1 c1 (addP (mulP P S) (mulP Q S))) => kB1.eq_c kB2 h0 h1 (by omega) ⟨by omega, by omega⟩ (mulP_add kP.nf kQ.nf kS0.nf)
  have HP := hid iP; have HQ := hid iQ; have HS := hid iS
  unfold PPost at CAdd CMul CAdd2 CMul2 CNrm CSub CMul3 CMul4 CMul5 CMul6 CMul7 CAdd3
  clear T hP hQ hS V1 V2 V3 iP iQ iS nP nQ nS eP eQ eS dP dQ dS lP lQ lS kP kQ kS0 kS kS2 kM kM2 kD kQS kPS kA1 kA2 kB1 kB2 hRP hNP hn hm hk
  go_enter Tryz.func9, Tryz.ntmps9
  go_wp2_with (first
    | (go_at_call 33; (with_reducible refine (B1.out _ HG.out).mono ?_); rintro e _ ⟨rfl, hg⟩; (try replace HP := hid (HP.out.keep hg)); (try replace HQ := hid (HQ.out.keep hg)); (try replace HS := hid (HS.out.keep hg)); (try replace RS := hid (RS.out.keep hg)); (try replace RM := hid (RM.out.keep hg)); (try replace RS2 := hid (RS2.out.keep hg)); (try replace RM2 := hid (RM2.out.keep hg)); (try replace RN := hid (RN.out.keep hg)); (try replace RD := hid (RD.out.keep hg)); (try replace RA1 := hid (RA1.out.keep hg)); (try replace RQS := hid (RQS.out.keep hg)); (try replace RA2 := hid (RA2.out.keep hg)); (try replace RB1 := hid (RB1.out.keep hg)); (try replace RPS := hid (RPS.out.keep hg)); (try replace RB2 := hid (RB2.out.keep hg)); replace HG := hid (grown_trans HG.out hg); clear hg)
    | (go_at_call 33; (with_reducible refine (B2.out _ HG.out).mono ?_); rintro e _ ⟨rfl, hg⟩; (try replace HP := hid (HP.out.keep hg)); (try replace HQ := hid (HQ.out.keep hg)); (try replace HS := hid (HS.out.keep hg)); (try replace RS := hid (RS.out.keep hg)); (try replace RM := hid (RM.out.keep hg)); (try replace RS2 := hid (RS2.out.keep hg)); (try replace RM2 := hid (RM2.out.keep hg)); (try replace RN := hid (RN.out.keep hg)); (try replace RD := hid (RD.out.keep hg)); (try replace RA1 := hid (RA1.out.keep hg)); (try replace RQS := hid (RQS.out.keep hg)); (try replace RA2 := hid (RA2.out.keep hg)); (try replace RB1 := hid (RB1.out.keep hg)); (try replace RPS := hid (RPS.out.keep hg)); (try replace RB2 := hid (RB2.out.keep hg)); replace HG := hid (grown_trans HG.out hg); clear hg)
    | (go_at_call 33; (with_reducible refine (B3.out _ HG.out).mono ?_); rintro e _ ⟨rfl, hg⟩; (try replace HP := hid (HP.out.keep hg)); (try replace HQ := hid (HQ.out.keep hg)); (try replace HS := hid (HS.out.keep hg)); (try replace RS := hid (RS.out.keep hg)); (try replace RM := hid (RM.out.keep hg)); (try replace RS2 := hid (RS2.out.keep hg)); (try replace RM2 := hid (RM2.out.keep hg)); (try replace RN := hid (RN.out.keep hg)); (try replace RD := hid (RD.out.keep hg)); (try replace RA1 := hid (RA1.out.keep hg)); (try replace RQS := hid (RQS.out.keep hg)); (try replace RA2 := hid (RA2.out.keep hg)); (try replace RB1 := hid (RB1.out.keep hg)); (try replace RPS := hid (RPS.out.keep hg)); (try replace RB2 := hid (RB2.out.keep hg)); replace HG := hid (grown_trans HG.out hg); clear hg)
    | (go_at_call 25; (with_reducible refine (CAdd.out _ _ _ _ _ _ _  HG.out HP.out HQ.out).mono ?_); rintro e _ ⟨pRS, nRS, cRS, rfl, hh, hg⟩; (try replace HP := hid (HP.out.keep hg)); (try replace HQ := hid (HQ.out.keep hg)); (try replace HS := hid (HS.out.keep hg)); (try replace RS := hid (RS.out.keep hg)); (try replace RM := hid (RM.out.keep hg)); (try replace RS2 := hid (RS2.out.keep hg)); (try replace RM2 := hid (RM2.out.keep hg)); (try replace RN := hid (RN.out.keep hg)); (try replace RD := hid (RD.out.keep hg)); (try replace RA1 := hid (RA1.out.keep hg)); (try replace RQS := hid (RQS.out.keep hg)); (try replace RA2 := hid (RA2.out.keep hg)); (try replace RB1 := hid (RB1.out.keep hg)); (try replace RPS := hid (RPS.out.keep hg)); (try replace RB2 := hid (RB2.out.keep hg)); have RS := hid hh; replace HG := hid (grown_trans HG.out hg); clear hh hg)
    | (go_at_call 29; (with_reducible refine (CMul.out _ _ _ _ _ _ _  HG.out HP.out HQ.out).mono ?_); rintro e _ ⟨pRM, nRM, cRM, rfl, hh, hg⟩; (try replace HP := hid (HP.out.keep hg)); (try replace HQ := hid (HQ.out.keep hg)); (try replace HS := hid (HS.out.keep hg)); (try replace RS := hid (RS.out.keep hg)); (try replace RM := hid (RM.out.keep hg)); (try replace RS2 := hid (RS2.out.keep hg)); (try replace RM2 := hid (RM2.out.keep hg)); (try replace RN := hid (RN.out.keep hg)); (try replace RD := hid (RD.out.keep hg)); (try replace RA1 := hid (RA1.out.keep hg)); (try replace RQS := hid (RQS.out.keep hg)); (try replace RA2 := hid (RA2.out.keep hg)); (try replace RB1 := hid (RB1.out.keep hg)); (try replace RPS := hid (RPS.out.keep hg)); (try replace RB2 := hid (RB2.out.keep hg)); have RM := hid hh; replace HG := hid (grown_trans HG.out hg); clear hh hg)
    | (go_at_call 15; (with_reducible refine (CRS.out _ _ _ _  HG.out RS.out).mono ?_); rintro e _ ⟨rfl, hg⟩; (try replace HP := hid (HP.out.keep hg)); (try replace HQ := hid (HQ.out.keep hg)); (try replace HS := hid (HS.out.keep hg)); (try replace RS := hid (RS.out.keep hg)); (try replace RM := hid (RM.out.keep hg)); (try replace RS2 := hid (RS2.out.keep hg)); (try replace RM2 := hid (RM2.out.keep hg)); (try replace RN := hid (RN.out.keep hg)); (try replace RD := hid (RD.out.keep hg)); (try replace RA1 := hid (RA1.out.keep hg)); (try replace RQS := hid (RQS.out.keep hg)); (try replace RA2 := hid (RA2.out.keep hg)); (try replace RB1 := hid (RB1.out.keep hg)); (try replace RPS := hid (RPS.out.keep hg)); (try replace RB2 := hid (RB2.out.keep hg)); replace HG := hid (grown_trans HG.out hg); clear hg)
    | (go_at_call 15; (with_reducible refine (CRM.out _ _ _ _  HG.out RM.out).mono ?_); rintro e _ ⟨rfl, hg⟩; (try replace HP := hid (HP.out.keep hg)); (try replace HQ := hid (HQ.out.keep hg)); (try replace HS := hid (HS.out.keep hg)); (try replace RS := hid (RS.out.keep hg)); (try replace RM := hid (RM.out.keep hg)); (try replace RS2 := hid (RS2.out.keep hg)); (try replace RM2 := hid (RM2.out.keep hg)); (try replace RN := hid (RN.out.keep hg)); (try replace RD := hid (RD.out.keep hg)); (try replace RA1 := hid (RA1.out.keep hg)); (try replace RQS := hid (RQS.out.keep hg)); (try replace RA2 := hid (RA2.out.keep hg)); (try replace RB1 := hid (RB1.out.keep hg)); (try replace RPS := hid (RPS.out.keep hg)); (try replace RB2 := hid (RB2.out.keep hg)); replace HG := hid (grown_trans HG.out hg); clear hg)
    | (go_at_call 25; (with_reducible refine (CAdd2.out _ _ _ _ _ _ _  HG.out HQ.out HP.out).mono ?_); rintro e _ ⟨pRS2, nRS2, cRS2, rfl, hh, hg⟩; (try replace HP := hid (HP.out.keep hg)); (try replace HQ := hid (HQ.out.keep hg)); (try replace HS := hid (HS.out.keep hg)); (try replace RS := hid (RS.out.keep hg)); (try replace RM := hid (RM.out.keep hg)); (try replace RS2 := hid (RS2.out.keep hg)); (try replace RM2 := hid (RM2.out.keep hg)); (try replace RN := hid (RN.out.keep hg)); (try replace RD := hid (RD.out.keep hg)); (try replace RA1 := hid (RA1.out.keep hg)); (try replace RQS := hid (RQS.out.keep hg)); (try replace RA2 := hid (RA2.out.keep hg)); (try replace RB1 := hid (RB1.out.keep hg)); (try replace RPS := hid (RPS.out.keep hg)); (try replace RB2 := hid (RB2.out.keep hg)); have RS2 := hid hh; replace HG := hid (grown_trans HG.out hg); clear hh hg)
    | (go_at_call 20; (with_reducible refine (CEq2.out _ _ _ _ _ _ _  HG.out RS.out RS2.out).mono ?_); rintro e _ ⟨rfl, hg⟩; (try replace HP := hid (HP.out.keep hg)); (try replace HQ := hid (HQ.out.keep hg)); (try replace HS := hid (HS.out.keep hg)); (try replace RS := hid (RS.out.keep hg)); (try replace RM := hid (RM.out.keep hg)); (try replace RS2 := hid (RS2.out.keep hg)); (try replace RM2 := hid (RM2.out.keep hg)); (try replace RN := hid (RN.out.keep hg)); (try replace RD := hid (RD.out.keep hg)); (try replace RA1 := hid (RA1.out.keep hg)); (try replace RQS := hid (RQS.out.keep hg)); (try replace RA2 := hid (RA2.out.keep hg)); (try replace RB1 := hid (RB1.out.keep hg)); (try replace RPS := hid (RPS.out.keep hg)); (try replace RB2 := hid (RB2.out.keep hg)); replace HG := hid (grown_trans HG.out hg); clear hg)
    | (go_at_call 29; (with_reducible refine (CMul2.out _ _ _ _ _ _ _  HG.out HQ.out HP.out).mono ?_); rintro e _ ⟨pRM2, nRM2, cRM2, rfl, hh, hg⟩; (try replace HP := hid (HP.out.keep hg)); (try replace HQ := hid (HQ.out.keep hg)); (try replace HS := hid (HS.out.keep hg)); (try replace RS := hid (RS.out.keep hg)); (try replace RM := hid (RM.out.keep hg)); (try replace RS2 := hid (RS2.out.keep hg)); (try replace RM2 := hid (RM2.out.keep hg)); (try replace RN := hid (RN.out.keep hg)); (try replace RD := hid (RD.out.keep hg)); (try replace RA1 := hid (RA1.out.keep hg)); (try replace RQS := hid (RQS.out.keep hg)); (try replace RA2 := hid (RA2.out.keep hg)); (try replace RB1 := hid (RB1.out.keep hg)); (try replace RPS := hid (RPS.out.keep hg)); (try replace RB2 := hid (RB2.out.keep hg)); have RM2 := hid hh; replace HG := hid (grown_trans HG.out hg); clear hh hg)
    | (go_at_call 20; (with_reducible refine (CEq3.out _ _ _ _ _ _ _  HG.out RM.out RM2.out).mono ?_); rintro e _ ⟨rfl, hg⟩; (try replace HP := hid (HP.out.keep hg)); (try replace HQ := hid (HQ.out.keep hg)); (try replace HS := hid (HS.out.keep hg)); (try replace RS := hid (RS.out.keep hg)); (try replace RM := hid (RM.out.keep hg)); (try replace RS2 := hid (RS2.out.keep hg)); (try replace RM2 := hid (RM2.out.keep hg)); (try replace RN := hid (RN.out.keep hg)); (try replace RD := hid (RD.out.keep hg)); (try replace RA1 := hid (RA1.out.keep hg)); (try replace RQS := hid (RQS.out.keep hg)); (try replace RA2 := hid (RA2.out.keep hg)); (try replace RB1 := hid (RB1.out.keep hg)); (try replace RPS := hid (RPS.out.keep hg)); (try replace RB2 := hid (RB2.out.keep hg)); replace HG := hid (grown_trans HG.out hg); clear hg)
    | (go_at_call 13; (with_reducible refine (CNrm.out _ HG.out).mono ?_); rintro e _ ⟨pRN, nRN, cRN, rfl, hh, hg⟩; (try replace HP := hid (HP.out.keep hg)); (try replace HQ := hid (HQ.out.keep hg)); (try replace HS := hid (HS.out.keep hg)); (try replace RS := hid (RS.out.keep hg)); (try replace RM := hid (RM.out.keep hg)); (try replace RS2 := hid (RS2.out.keep hg)); (try replace RM2 := hid (RM2.out.keep hg)); (try replace RN := hid (RN.out.keep hg)); (try replace RD := hid (RD.out.keep hg)); (try replace RA1 := hid (RA1.out.keep hg)); (try replace RQS := hid (RQS.out.keep hg)); (try replace RA2 := hid (RA2.out.keep hg)); (try replace RB1 := hid (RB1.out.keep hg)); (try replace RPS := hid (RPS.out.keep hg)); (try replace RB2 := hid (RB2.out.keep hg)); have RN := hid hh; replace HG := hid (grown_trans HG.out hg); clear hh hg)
    | (go_at_call 20; (with_reducible refine (CEq4.out _ _ _ _ _ _ _  HG.out RN.out HP.out).mono ?_); rintro e _ ⟨rfl, hg⟩; (try replace HP := hid (HP.out.keep hg)); (try replace HQ := hid (HQ.out.keep hg)); (try replace HS := hid (HS.out.keep hg)); (try replace RS := hid (RS.out.keep hg)); (try replace RM := hid (RM.out.keep hg)); (try replace RS2 := hid (RS2.out.keep hg)); (try replace RM2 := hid (RM2.out.keep hg)); (try replace RN := hid (RN.out.keep hg)); (try replace RD := hid (RD.out.keep hg)); (try replace RA1 := hid (RA1.out.keep hg)); (try replace RQS := hid (RQS.out.keep hg)); (try replace RA2 := hid (RA2.out.keep hg)); (try replace RB1 := hid (RB1.out.keep hg)); (try replace RPS := hid (RPS.out.keep hg)); (try replace RB2 := hid (RB2.out.keep hg)); replace HG := hid (grown_trans HG.out hg); clear hg)
    | (go_at_call 27; (with_reducible refine (CSub.out _ _ _ _ _ _ _  HG.out RS.out HQ.out).mono ?_); rintro e _ ⟨pRD, nRD, cRD, rfl, hh, hg⟩; (try replace HP := hid (HP.out.keep hg)); (try replace HQ := hid (HQ.out.keep hg)); (try replace HS := hid (HS.out.keep hg)); (try replace RS := hid (RS.out.keep hg)); (try replace RM := hid (RM.out.keep hg)); (try replace RS2 := hid (RS2.out.keep hg)); (try replace RM2 := hid (RM2.out.keep hg)); (try replace RN := hid (RN.out.keep hg)); (try replace RD := hid (RD.out.keep hg)); (try replace RA1 := hid (RA1.out.keep hg)); (try replace RQS := hid (RQS.out.keep hg)); (try replace RA2 := hid (RA2.out.keep hg)); (try replace RB1 := hid (RB1.out.keep hg)); (try replace RPS := hid (RPS.out.keep hg)); (try replace RB2 := hid (RB2.out.keep hg)); have RD := hid hh; replace HG := hid (grown_trans HG.out hg); clear hh hg)
    | (go_at_call 20; (with_reducible refine (CEq5.out _ _ _ _ _ _ _  HG.out RD.out HP.out).mono ?_); rintro e _ ⟨rfl, hg⟩; (try replace HP := hid (HP.out.keep hg)); (try replace HQ := hid (HQ.out.keep hg)); (try replace HS := hid (HS.out.keep hg)); (try replace RS := hid (RS.out.keep hg)); (try replace RM := hid (RM.out.keep hg)); (try replace RS2 := hid (RS2.out.keep hg)); (try replace RM2 := hid (RM2.out.keep hg)); (try replace RN := hid (RN.out.keep hg)); (try replace RD := hid (RD.out.keep hg)); (try replace RA1 := hid (RA1.out.keep hg)); (try replace RQS := hid (RQS.out.keep hg)); (try replace RA2 := hid (RA2.out.keep hg)); (try replace RB1 := hid (RB1.out.keep hg)); (try replace RPS := hid (RPS.out.keep hg)); (try replace RB2 := hid (RB2.out.keep hg)); replace HG := hid (grown_trans HG.out hg); clear hg)
    | (go_at_call 29; (with_reducible refine (CMul3.out _ _ _ _ _ _ _  HG.out RM.out HS.out).mono ?_); rintro e _ ⟨pRA1, nRA1, cRA1, rfl, hh, hg⟩; (try replace HP := hid (HP.out.keep hg)); (try replace HQ := hid (HQ.out.keep hg)); (try replace HS := hid (HS.out.keep hg)); (try replace RS := hid (RS.out.keep hg)); (try replace RM := hid (RM.out.keep hg)); (try replace RS2 := hid (RS2.out.keep hg)); (try replace RM2 := hid (RM2.out.keep hg)); (try replace RN := hid (RN.out.keep hg)); (try replace RD := hid (RD.out.keep hg)); (try replace RA1 := hid (RA1.out.keep hg)); (try replace RQS := hid (RQS.out.keep hg)); (try replace RA2 := hid (RA2.out.keep hg)); (try replace RB1 := hid (RB1.out.keep hg)); (try replace RPS := hid (RPS.out.keep hg)); (try replace RB2 := hid (RB2.out.keep hg)); have RA1 := hid hh; replace HG := hid (grown_trans HG.out hg); clear hh hg)
    | (go_at_call 29; (with_reducible refine (CMul4.out _ _ _ _ _ _ _  HG.out HQ.out HS.out).mono ?_); rintro e _ ⟨pRQS, nRQS, cRQS, rfl, hh, hg⟩; (try replace HP := hid (HP.out.keep hg)); (try replace HQ := hid (HQ.out.keep hg)); (try replace HS := hid (HS.out.keep hg)); (try replace RS := hid (RS.out.keep hg)); (try replace RM := hid (RM.out.keep hg)); (try replace RS2 := hid (RS2.out.keep hg)); (try replace RM2 := hid (RM2.out.keep hg)); (try replace RN := hid (RN.out.keep hg)); (try replace RD := hid (RD.out.keep hg)); (try replace RA1 := hid (RA1.out.keep hg)); (try replace RQS := hid (RQS.out.keep hg)); (try replace RA2 := hid (RA2.out.keep hg)); (try replace RB1 := hid (RB1.out.keep hg)); (try replace RPS := hid (RPS.out.keep hg)); (try replace RB2 := hid (RB2.out.keep hg)); have RQS := hid hh; replace HG := hid (grown_trans HG.out hg); clear hh hg)
    | (go_at_call 29; (with_reducible refine (CMul5.out _ _ _ _ _ _ _  HG.out HP.out RQS.out).mono ?_); rintro e _ ⟨pRA2, nRA2, cRA2, rfl, hh, hg⟩; (try replace HP := hid (HP.out.keep hg)); (try replace HQ := hid (HQ.out.keep hg)); (try replace HS := hid (HS.out.keep hg)); (try replace RS := hid (RS.out.keep hg)); (try replace RM := hid (RM.out.keep hg)); (try replace RS2 := hid (RS2.out.keep hg)); (try replace RM2 := hid (RM2.out.keep hg)); (try replace RN := hid (RN.out.keep hg)); (try replace RD := hid (RD.out.keep hg)); (try replace RA1 := hid (RA1.out.keep hg)); (try replace RQS := hid (RQS.out.keep hg)); (try replace RA2 := hid (RA2.out.keep hg)); (try replace RB1 := hid (RB1.out.keep hg)); (try replace RPS := hid (RPS.out.keep hg)); (try replace RB2 := hid (RB2.out.keep hg)); have RA2 := hid hh; replace HG := hid (grown_trans HG.out hg); clear hh hg)
    | (go_at_call 20; (with_reducible refine (CEq6.out _ _ _ _ _ _ _  HG.out RA1.out RA2.out).mono ?_); rintro e _ ⟨rfl, hg⟩; (try replace HP := hid (HP.out.keep hg)); (try replace HQ := hid (HQ.out.keep hg)); (try replace HS := hid (HS.out.keep hg)); (try replace RS := hid (RS.out.keep hg)); (try replace RM := hid (RM.out.keep hg)); (try replace RS2 := hid (RS2.out.keep hg)); (try replace RM2 := hid (RM2.out.keep hg)); (try replace RN := hid (RN.out.keep hg)); (try replace RD := hid (RD.out.keep hg)); (try replace RA1 := hid (RA1.out.keep hg)); (try replace RQS := hid (RQS.out.keep hg)); (try replace RA2 := hid (RA2.out.keep hg)); (try replace RB1 := hid (RB1.out.keep hg)); (try replace RPS := hid (RPS.out.keep hg)); (try replace RB2 := hid (RB2.out.keep hg)); replace HG := hid (grown_trans HG.out hg); clear hg)
    | (go_at_call 29; (with_reducible refine (CMul6.out _ _ _ _ _ _ _  HG.out RS.out HS.out).mono ?_); rintro e _ ⟨pRB1, nRB1, cRB1, rfl, hh, hg⟩; (try replace HP := hid (HP.out.keep hg)); (try replace HQ := hid (HQ.out.keep hg)); (try replace HS := hid (HS.out.keep hg)); (try replace RS := hid (RS.out.keep hg)); (try replace RM := hid (RM.out.keep hg)); (try replace RS2 := hid (RS2.out.keep hg)); (try replace RM2 := hid (RM2.out.keep hg)); (try replace RN := hid (RN.out.keep hg)); (try replace RD := hid (RD.out.keep hg)); (try replace RA1 := hid (RA1.out.keep hg)); (try replace RQS := hid (RQS.out.keep hg)); (try replace RA2 := hid (RA2.out.keep hg)); (try replace RB1 := hid (RB1.out.keep hg)); (try replace RPS := hid (RPS.out.keep hg)); (try replace RB2 := hid (RB2.out.keep hg)); have RB1 := hid hh; replace HG := hid (grown_trans HG.out hg); clear hh hg)
    | (go_at_call 29; (with_reducible refine (CMul7.out _ _ _ _ _ _ _  HG.out HP.out HS.out).mono ?_); rintro e _ ⟨pRPS, nRPS, cRPS, rfl, hh, hg⟩; (try replace HP := hid (HP.out.keep hg)); (try replace HQ := hid (HQ.out.keep hg)); (try replace HS := hid (HS.out.keep hg)); (try replace RS := hid (RS.out.keep hg)); (try replace RM := hid (RM.out.keep hg)); (try replace RS2 := hid (RS2.out.keep hg)); (try replace RM2 := hid (RM2.out.keep hg)); (try replace RN := hid (RN.out.keep hg)); (try replace RD := hid (RD.out.keep hg)); (try replace RA1 := hid (RA1.out.keep hg)); (try replace RQS := hid (RQS.out.keep hg)); (try replace RA2 := hid (RA2.out.keep hg)); (try replace RB1 := hid (RB1.out.keep hg)); (try replace RPS := hid (RPS.out.keep hg)); (try replace RB2 := hid (RB2.out.keep hg)); have RPS := hid hh; replace HG := hid (grown_trans HG.out hg); clear hh hg)
    | (go_at_call 25; (with_reducible refine (CAdd3.out _ _ _ _ _ _ _  HG.out RPS.out RQS.out).mono ?_); rintro e _ ⟨pRB2, nRB2, cRB2, rfl, hh, hg⟩; (try replace HP := hid (HP.out.keep hg)); (try replace HQ := hid (HQ.out.keep hg)); (try replace HS := hid (HS.out.keep hg)); (try replace RS := hid (RS.out.keep hg)); (try replace RM := hid (RM.out.keep hg)); (try replace RS2 := hid (RS2.out.keep hg)); (try replace RM2 := hid (RM2.out.keep hg)); (try replace RN := hid (RN.out.keep hg)); (try replace RD := hid (RD.out.keep hg)); (try replace RA1 := hid (RA1.out.keep hg)); (try replace RQS := hid (RQS.out.keep hg)); (try replace RA2 := hid (RA2.out.keep hg)); (try replace RB1 := hid (RB1.out.keep hg)); (try replace RPS := hid (RPS.out.keep hg)); (try replace RB2 := hid (RB2.out.keep hg)); have RB2 := hid hh; replace HG := hid (grown_trans HG.out hg); clear hh hg)
    | (go_at_call 20; (with_reducible refine (CEq7.out _ _ _ _ _ _ _  HG.out RB1.out RB2.out).mono ?_); rintro e _ ⟨rfl, hg⟩; (try replace HP := hid (HP.out.keep hg)); (try replace HQ := hid (HQ.out.keep hg)); (try replace HS := hid (HS.out.keep hg)); (try replace RS := hid (RS.out.keep hg)); (try replace RM := hid (RM.out.keep hg)); (try replace RS2 := hid (RS2.out.keep hg)); (try replace RM2 := hid (RM2.out.keep hg)); (try replace RN := hid (RN.out.keep hg)); (try replace RD := hid (RD.out.keep hg)); (try replace RA1 := hid (RA1.out.keep hg)); (try replace RQS := hid (RQS.out.keep hg)); (try replace RA2 := hid (RA2.out.keep hg)); (try replace RB1 := hid (RB1.out.keep hg)); (try replace RPS := hid (RPS.out.keep hg)); (try replace RB2 := hid (RB2.out.keep hg)); replace HG := hid (grown_trans HG.out hg); clear hg)
    | (go_at_call 11; (with_reducible refine (CAl.out _ HG.out).mono ?_); rintro e _ ⟨rfl, hg⟩; (try replace HP := hid (HP.out.keep hg)); (try replace HQ := hid (HQ.out.keep hg)); (try replace HS := hid (HS.out.keep hg)); (try replace RS := hid (RS.out.keep hg)); (try replace RM := hid (RM.out.keep hg)); (try replace RS2 := hid (RS2.out.keep hg)); (try replace RM2 := hid (RM2.out.keep hg)); (try replace RN := hid (RN.out.keep hg)); (try replace RD := hid (RD.out.keep hg)); (try replace RA1 := hid (RA1.out.keep hg)); (try replace RQS := hid (RQS.out.keep hg)); (try replace RA2 := hid (RA2.out.keep hg)); (try replace RB1 := hid (RB1.out.keep hg)); (try replace RPS := hid (RPS.out.keep hg)); (try replace RB2 := hid (RB2.out.keep hg)); replace HG := hid (grown_trans HG.out hg); clear hg))
  go_ret
  exact ⟨rfl, HG.out⟩
theorem readPoly6 : Tryz.prog.readableRec 35 = true := by kernel_rfl
theorem rowPoly6 : 35 < Tryz.prog.types.size := of_decide_eq_true (by kernel_rfl)

theorem polyRing_door (os : Os) (args : Array Value) : laidMetH Tryz.prog [("math/bits.deBruijn64tab", Rows.laid_math_bits_deBruijn64tab)] ((World.doorLaid Tryz.prog 400 os).forCall (fun _ _ => 0) ⟨#[], args, []⟩).memory :=
  laidMetH_of_parts3 (fuel := 8) (laidMet_of_run' 8 (by kernel_rfl) (by kernel_rfl)) (by kernel_rfl) (by kernel_rfl)

set_option maxRecDepth 100000 in
theorem polyRing_lifted (os : Os) (started : os.Started) (H : Type) (enc : TypeId × Value → H) :
    ReturnsInHanded {} Tryz.checked os 9 .any (fun w args => (Rows.polyRingSpec.pre enc Tryz.prog Tryz.f9 [] false w args ∧ laidMetH Tryz.prog [("math/bits.deBruijn64tab", Rows.laid_math_bits_deBruijn64tab)] w) ∧ sizedMet enc Tryz.prog Tryz.f9 (OpenSpec.ofChange Rows.polyRingSpec) false w args)
      (Rows.polyRingSpec.post enc Tryz.prog Tryz.f9 false true false false) := by
  refine returnsInHanded_of_change_and (C := Tryz.checked) (X := fun w _ => laidMetH Tryz.prog [("math/bits.deBruijn64tab", Rows.laid_math_bits_deBruijn64tab)] w) (fun _ _ _ hh h => h.of_heap hh) own1 started (by kernel_rfl) Tryz.func9
    (ChangeSpec.witness_shaped (enc := enc) (C := Tryz.checked) (os := os) (X := fun w _ => laidMetH Tryz.prog [("math/bits.deBruijn64tab", Rows.laid_math_bits_deBruijn64tab)] w) false (World.doorLaid Tryz.prog 400 os) #[.slice none 0 0, .slice none 0 0, .slice none 0 0] 8 rfl (World.shaped_of_RefB (by kernel_rfl) (by kernel_rfl)) (by kernel_rfl) (by kernel_rfl) (by kernel_rfl) (polyRing_door os _)) ?_
  intro W base args ds gs before hval0 hW _ _ hL _
  have hval : ∀ (j : Nat) t v, Tryz.f9.params[j]? = some t → args[j]? = some v → Value.okWide Tryz.prog W .any base t v := hval0
  have hW' := hW
  obtain ⟨p, q, hA0, hV, rfl, hfz, hnd⟩ := hW
  have hA : DataW.TrodAll enc Tryz.prog W 0 (fun _ => true) true Tryz.f9.params.toList args.toList ds p := hA0
  rw [Tryz.params9] at hA hval
  obtain ⟨v0, v1, v2, d0, d1, d2, p0, p1, p2, rfl, rfl, rfl, h0, h1, h2⟩ := trodAll_three hA
  obtain ⟨rfl, rfl⟩ := trodVars_none hV
  have hlt : ∀ x ∈ p0 ++ (p1 ++ (p2)), x.block < W.heap.size := fun x hx => hW'.lt x (by simpa using hx)
  obtain ⟨a0, len0, cap0, rfl⟩ := okWide_slice Tryz.underlying35 (hval 0 35 v0 rfl rfl)
  obtain ⟨fuel0, hf0⟩ := h0
  obtain ⟨pp0, n0, c0, P0, N0, M0, hcp0, hR0⟩ := open_termsP Tryz.underlying35 hf0
  have hcq0 : Value.slice a0 len0 cap0 = .slice pp0 n0 c0 := by
    have h : [Value.slice a0 len0 cap0] = [Value.slice pp0 n0 c0] := hcp0
    exact (List.cons.inj h).1
  obtain ⟨a1, len1, cap1, rfl⟩ := okWide_slice Tryz.underlying35 (hval 1 35 v1 rfl rfl)
  obtain ⟨fuel1, hf1⟩ := h1
  obtain ⟨pp1, n1, c1, P1, N1, M1, hcp1, hR1⟩ := open_termsP Tryz.underlying35 hf1
  have hcq1 : Value.slice a1 len1 cap1 = .slice pp1 n1 c1 := by
    have h : [Value.slice a1 len1 cap1] = [Value.slice pp1 n1 c1] := hcp1
    exact (List.cons.inj h).1
  obtain ⟨a2, len2, cap2, rfl⟩ := okWide_slice Tryz.underlying35 (hval 2 35 v2 rfl rfl)
  obtain ⟨fuel2, hf2⟩ := h2
  obtain ⟨pp2, n2, c2, P2, N2, M2, hcp2, hR2⟩ := open_termsP Tryz.underlying35 hf2
  have hcq2 : Value.slice a2 len2 cap2 = .slice pp2 n2 c2 := by
    have h : [Value.slice a2 len2 cap2] = [Value.slice pp2 n2 c2] := hcp2
    exact (List.cons.inj h).1
  have hw := polyRing_walk (tb_of_laid hL) hR0 hR1 hR2
  rw [← hcq0, ← hcq1, ← hcq2] at hw
  refine hw.mono fun e W' ⟨he, hg⟩ => ?_
  subst he
  have hB := grown_below hg
  exact ⟨_, rfl, _, _, _, [], _, [], hW', trodAll_mk1 (shut_bool Tryz.underlying4 true),
    trodAll_mk3 (Below.trod laidOut1 readPoly6 rowPoly6 ⟨fuel0, hf0⟩ hB fun x hx => hlt x (by simp [hx])) (Below.trod laidOut1 readPoly6 rowPoly6 ⟨fuel1, hf1⟩ hB fun x hx => hlt x (by simp [hx])) (Below.trod laidOut1 readPoly6 rowPoly6 ⟨fuel2, hf2⟩ hB fun x hx => hlt x (by simp [hx])), rfl, hB.frame _, fun h => by cases h⟩

theorem polyRing_holds : Rows.PolyRingSaid :=
  OpenClaim.holds_of_wide 9 Tryz.f9 rfl rfl rfl rfl rfl rfl rfl ⟨rfl, rfl, rfl, rfl, rfl⟩ rfl rfl rfl rfl rfl (by kernel_rfl) Tryz.func9 (by kernel_rfl)
    (of_decide_eq_true (by kernel_rfl)) (by unfold Func.isWrapper; first | (rw [if_pos (by decide +kernel)]; kernel_rfl) | (rw [if_neg (by decide +kernel)]; exact ⟨rfl, rfl⟩))
    (fun os started H enc _ => polyRing_lifted os started H enc)

theorem polyRing_card : Rows.PolyRingCardSaid :=
  Claim7.holds_tied_plain_at .later [] [.data] true _ false
    polyRing_holds (fun _ h => by cases h) (by kernel_rfl) (fun _ h => by cases h) polyRing_row_tie rfl ⟨rfl, rfl⟩ (by kernel_rfl) rfl
    (fun f fn hf hfn => by
      obtain rfl : f = 9 := Option.some.inj ((show Tryz.prog.funcNamed "geoprover/geoproverlaw06.PolyRing" = some 9 by kernel_rfl).symm.trans hf) |>.symm
      obtain rfl : fn = Tryz.f9 := (Option.some.inj (Tryz.func9.symm.trans hfn)).symm
      exact ⟨by kernel_rfl, fun j t ht => by
        rw [Tryz.params9] at ht
        have hm : t ∈ [35, 35, 35] := by simpa using Array.mem_of_getElem? ht
        have hall : ([35, 35, 35].all fun u => !Tryz.prog.wantsStandIn u) = true := by kernel_rfl
        exact (show Tryz.prog.wantsStandIn t = false by simpa using List.all_eq_true.1 hall t hm)⟩)
    (by kernel_rfl)

end Go.Proofs.YtceoegmflbgckaaGreatDoor
