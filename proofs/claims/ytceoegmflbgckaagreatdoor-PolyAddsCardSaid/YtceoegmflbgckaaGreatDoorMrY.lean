/-
  Whatever the two polynomials and the number are, the Go function PolyAdds returns true and leaves them as they are. Condition: the table of package math/bits holds what the program's text lays (the card ties it).
-/
import Derived.Test.YtceoegmflbgckaaGreatDoorMrV
import Derived.Test.YtceoegmflbgckaaGreatDoorMrS
import Derived.Test.YtceoegmflbgckaaGreatDoorMrR
import Derived.OpenShut
import Derived.ChangeMaps5
import Derived.Lib.LaidTab
import Derived.Deep.RegionHeld3
import Derived.Deep.DeepCutAuto

set_option linter.unusedVariables false
set_option linter.unusedSimpArgs false
namespace Go.Proofs.YtceoegmflbgckaaGreatDoor
open Go.ChangeShapes Go.WideShapes Go.ChangeAt Go.RowKit _root_.Nm
open Go Go.ChangeMaps
set_option maxHeartbeats 32000000 in
set_option maxRecDepth 100000 in
theorem polyAdds_walk {w : World} (T : Tb w) {p q : Option Addr} {n c m d : Nat} {P Q : List Tm} {N1 N2 M1 M2 : Nat → Nat} (hP : IsR w p n c P N1 N2) (hQ : IsR w q m d Q M1 M2) (g1 : Bool) {p1 q1 : Option Addr} {n1 c1 m1 d1 : Nat} {xs ys : List Nat} (hr0 : IRd w .u16 p1 n1 c1 xs) (hx : Dg 65536 xs) (hr1 : IRd w .u16 q1 m1 d1 ys) (hy : Dg 65536 ys) :
    Calls Tryz.prog 4 #[.slice p n c, .slice q m d, .agg #[.bool g1, .slice p1 n1 c1, .slice q1 m1 d1]] w fun e w' => e = .returned (.bool true) ∧ w.grownBy w' none := by
  obtain ⟨b1, B1, V1⟩ := rSmall6_v T hP 8 5 8 (by omega) (by omega) (by omega)
  obtain ⟨b2, B2, V2⟩ := rSmall6_v T hQ 8 5 8 (by omega) (by omega) (by omega)
  have B1 : ∀ W, w.grownBy W none → Calls Tryz.prog 33 #[.slice p n c, .int .i64 8, .int .i64 5, .int .i64 8] W fun e w' => e = .returned (.bool b1) ∧ W.grownBy w' none := B1
  have B2 : ∀ W, w.grownBy W none → Calls Tryz.prog 33 #[.slice q m d, .int .i64 8, .int .i64 5, .int .i64 8] W fun e w' => e = .returned (.bool b2) ∧ W.grownBy w' none := B2
  have CAl := hid fun W (hg : w.grownBy W none) => alive6_v (T.keep hg)
  have HSH := hid fun W => short_v (w := W) g1 p1 n1 c1 q1 m1 d1 ⟨hr0.cap, hr0.max⟩ ⟨hr1.cap, hr1.max⟩
  have HG0 := World.grownBy_alloc w (.cells #[.bool g1, .slice p1 n1 c1, .slice q1 m1 d1] 29 (0, 0)) none
  have B0 := hid (blk0 w (.cells #[.bool g1, .slice p1 n1 c1, .slice q1 m1 d1] 29 (0, 0)))
  obtain ⟨bt, hbt⟩ : ∃ x, x = w.heap.size := ⟨_, rfl⟩
  rw [← hbt] at B0
  obtain ⟨bb, hbb⟩ : ∃ b, b = (b1 && b2) := ⟨_, rfl⟩
  have HBB := hid hbb
  have HFW := hid fun (w0 : World) (h0 : w.grownBy w0 none) => few2_v (blk0 w0 (.cells #[.slice p n c, .slice q m d] 35 (0, 0))) (fun W h => B1 W (grown_trans (grown_trans h0 (World.grownBy_alloc _ _ none)) h)) (fun W h => B2 W (grown_trans (grown_trans h0 (World.grownBy_alloc _ _ none)) h))
  rw [← hbb] at HFW
  have HG := hid HG0
  clear HG0 B1 B2 hbb
  have HBT := hid hbt
  by_cases hfew : bb = true ∧ n1 ≤ 4 ∧ m1 ≤ 4
  · obtain ⟨rfl, hn4, hm4⟩ := hfew
    have hbb : b1 = true ∧ b2 = true := by have := HBB.out; simpa using this.symm
    obtain ⟨r, -, HRT, HRV⟩ := right3_full T g1 hr0 hx hr1 hy (by omega) (by omega)
    replace HRT := hid HRT
    rw [decide_eq_true ⟨hn4, hm4⟩] at HSH
    cases r
    · clear T hP hQ hr0 hx hr1 hy V1 V2 HRV hn4 hm4 hbb
      go_enter Tryz.func4, Tryz.ntmps4
      go_upto_region 1 with fail
      rw [← HBT.out]
      clear hbt HBT
      generalize w.alloc _ = w0 at *
      have HFEW := hid (HFW.out w0 HG.out)
      have BT := hid (keepB B0.out (World.grownBy_alloc w0 (.cells #[.slice p n c, .slice q m d] 35 (0, 0)) none))
      have HG1 := hid (grown_trans HG.out (World.grownBy_alloc w0 (.cells #[.slice p n c, .slice q m d] 35 (0, 0)) none))
      obtain ⟨k0', k1', k2'⟩ := box3p BT.out
      go_wp2_with (first
        | (go_at_call 18; (with_reducible refine HFEW.out.mono ?_); rintro e _ ⟨rfl, hg⟩; replace HG := hid (grown_trans HG1.out hg); replace k0 := hg.cell k0' (by simp); replace k1 := hg.cell k1' (by simp); replace k2 := hg.cell k2' (by simp); clear hg)
        | (go_at_call 12; (with_reducible refine (HSH.out _).mono ?_); rintro e _ ⟨rfl, hg⟩; replace HG := hid (grown_trans HG.out hg); replace k0 := hg.cell k0 (by simp); replace k1 := hg.cell k1 (by simp); replace k2 := hg.cell k2 (by simp); clear hg)
        | (go_at_call 19; (with_reducible refine (HRT.out _ HG.out).mono ?_); rintro e _ ⟨rfl, hg⟩; replace HG := hid (grown_trans HG.out hg); replace k0 := hg.cell k0 (by simp); replace k1 := hg.cell k1 (by simp); replace k2 := hg.cell k2 (by simp); clear hg)
        | (go_at_call 11; (with_reducible refine (CAl.out _ HG.out).mono ?_); rintro e _ ⟨rfl, hg⟩; replace HG := hid (grown_trans HG.out hg); clear hg))
      go_ret
      exact ⟨rfl, HG.out⟩
    · have hV := HRV rfl
      obtain ⟨v, hv⟩ : ∃ v, v = mkRat (sg g1 (V 65536 xs)) (V 65536 ys) := ⟨_, rfl⟩
      rw [← hv] at hV
      have bV : Bd 4 v := hV.bd hn4 hm4
      obtain ⟨hn, iP, nP, eP, dP, lP⟩ := V1 hbb.1
      obtain ⟨hm, iQ, nQ, eQ, dQ, lQ⟩ := V2 hbb.2
      have kP : Pk 4 8 8 P := ⟨nP, dP, eP, by have := iP.len; omega⟩
      have kQ : Pk 4 8 8 Q := ⟨nQ, dQ, eQ, by have := iQ.len; omega⟩
      have kN := kP.neg
      have kS := kP.add kQ
      have kD := kP.sub2 kQ
      have kM := kP.mul (by omega) kQ
      have kC := kP.scale bV
      have CEq := hid fun W p0 n0 c0 p1 n1 c1 (hg : w.grownBy W none) (h0 : IsP W p0 n0 c0 P) (h1 : IsP W p1 n1 c1 Q) => kP.eqb_c kQ h0 h1 (by omega) ⟨by omega, by omega⟩
      have CREq := hid fun W p0 n0 c0 p1 n1 c1 (hg : w.grownBy W none) (h0 : IsP W p0 n0 c0 P) (h1 : IsP W p1 n1 c1 Q) => kP.reqb_c kQ h0 h1 (by omega) ⟨by omega, by omega⟩
      have CCmp := hid fun W p0 n0 c0 p1 n1 c1 (hg : w.grownBy W none) (h0 : IsP W p0 n0 c0 P) (h1 : IsP W p1 n1 c1 Q) => kP.cmp_c kQ h0 h1 (by omega) ⟨by omega, by omega⟩
      have CRCmp := hid fun W p0 n0 c0 p1 n1 c1 (hg : w.grownBy W none) (h0 : IsP W p0 n0 c0 P) (h1 : IsP W p1 n1 c1 Q) => kP.rcmp_c kQ h0 h1 (by omega) ⟨by omega, by omega⟩
      have CNeg := hid fun W p0 n0 c0 (hg : w.grownBy W none) (h0 : IsP W p0 n0 c0 P) => kP.neg_c h0 (by omega) (by omega)
      have CRNeg := hid fun W p0 n0 c0 (hg : w.grownBy W none) (h0 : IsP W p0 n0 c0 P) => kP.rneg_c h0 (by omega) (by omega) (by omega)
      have CQNeg := hid fun W p0 n0 c0 p1 n1 c1 (hg : w.grownBy W none) (h0 : IsP W p0 n0 c0 (negP P)) (h1 : IsP W p1 n1 c1 (negP P)) => kN.req_c h0 h1 (by omega) ⟨by omega, by omega⟩
      have CAdd := hid fun W p0 n0 c0 p1 n1 c1 (hg : w.grownBy W none) (h0 : IsP W p0 n0 c0 P) (h1 : IsP W p1 n1 c1 Q) => kP.add_c kQ (T.keep hg) h0 h1 (by omega) ⟨by omega, by omega⟩ (by omega)
      have CRAdd := hid fun W p0 n0 c0 p1 n1 c1 (hg : w.grownBy W none) (h0 : IsP W p0 n0 c0 P) (h1 : IsP W p1 n1 c1 Q) => kP.radd_c kQ h0 h1 (by omega) ⟨by omega, by omega⟩ (by omega)
      have CQAdd := hid fun W p0 n0 c0 p1 n1 c1 (hg : w.grownBy W none) (h0 : IsP W p0 n0 c0 (addP P Q)) (h1 : IsP W p1 n1 c1 (addP P Q)) => kS.req_c h0 h1 (by omega) ⟨by omega, by omega⟩
      have CSub := hid fun W p0 n0 c0 p1 n1 c1 (hg : w.grownBy W none) (h0 : IsP W p0 n0 c0 P) (h1 : IsP W p1 n1 c1 Q) => kP.sub_c kQ (T.keep hg) h0 h1 (by omega) ⟨by omega, by omega⟩ (by omega)
      have CRSub := hid fun W p0 n0 c0 p1 n1 c1 (hg : w.grownBy W none) (h0 : IsP W p0 n0 c0 P) (h1 : IsP W p1 n1 c1 Q) => kP.rsub_c kQ h0 h1 (by omega) (by omega) ⟨by omega, by omega⟩ (by omega)
      have CQSub := hid fun W p0 n0 c0 p1 n1 c1 (hg : w.grownBy W none) (h0 : IsP W p0 n0 c0 (addP P (negP Q))) (h1 : IsP W p1 n1 c1 (addP P (negP Q))) => kD.req_c h0 h1 (by omega) ⟨by omega, by omega⟩
      have CMul := hid fun W p0 n0 c0 p1 n1 c1 (hg : w.grownBy W none) (h0 : IsP W p0 n0 c0 P) (h1 : IsP W p1 n1 c1 Q) => kP.mul_c kQ (T.keep hg) h0 h1 (by omega) ⟨by omega, by omega⟩ (by omega) (by omega) (by omega)
      have CRMul := hid fun W p0 n0 c0 p1 n1 c1 (hg : w.grownBy W none) (h0 : IsP W p0 n0 c0 P) (h1 : IsP W p1 n1 c1 Q) => kP.rmul_c kQ h0 h1 (by omega) ⟨by omega, by omega⟩ (by omega) (by omega) (by omega)
      have CQMul := hid fun W p0 n0 c0 p1 n1 c1 (hg : w.grownBy W none) (h0 : IsP W p0 n0 c0 (mulP P Q)) (h1 : IsP W p1 n1 c1 (mulP P Q)) => kM.req_c h0 h1 (by omega) ⟨by omega, by omega⟩
      have CSca := hid fun W p0 n0 c0 (hg : w.grownBy W none) (h0 : IsP W p0 n0 c0 P) => kP.scale_c (T.keep hg) h0 (hV.keep hg) bV (by omega) ⟨by omega, by omega⟩ (by omega)
      have CRSca := hid fun W p0 n0 c0 (hg : w.grownBy W none) (h0 : IsP W p0 n0 c0 P) => kP.rscale_c h0 (hV.keep hg) bV (by omega) (by omega)
      have CQSca := hid fun W p0 n0 c0 p1 n1 c1 (hg : w.grownBy W none) (h0 : IsP W p0 n0 c0 (scaleP P v)) (h1 : IsP W p1 n1 c1 (scaleP P v)) => kC.req_c h0 h1 (by omega) ⟨by omega, by omega⟩
      have HP := hid iP; have HQ := hid iQ
      unfold PPost at CNeg CRNeg CAdd CRAdd CSub CRSub CMul CRMul CSca CRSca
      obtain ⟨eb, heb⟩ : ∃ b, b = decide (cmpP P Q = 0) := ⟨_, rfl⟩
      rw [← heb] at CEq CREq
      obtain ⟨zb, hzb⟩ : ∃ b, b = cmpP P Q := ⟨_, rfl⟩
      rw [← hzb] at CCmp CRCmp
      have hee : (eb != eb) = false := by simp
      clear T hP hQ hr0 hx hr1 hy V1 V2 HRV hV hv bV iP iQ nP nQ eP eQ dP dQ lP lQ kP kQ kN kS kD kM kC hn hm hn4 hm4 hbb heb hzb
      go_enter Tryz.func4, Tryz.ntmps4
      go_upto_region 1 with fail
      rw [← HBT.out]
      clear hbt HBT
      generalize w.alloc _ = w0 at *
      have HFEW := hid (HFW.out w0 HG.out)
      have BT := hid (keepB B0.out (World.grownBy_alloc w0 (.cells #[.slice p n c, .slice q m d] 35 (0, 0)) none))
      have HG1 := hid (grown_trans HG.out (World.grownBy_alloc w0 (.cells #[.slice p n c, .slice q m d] 35 (0, 0)) none))
      obtain ⟨k0', k1', k2'⟩ := box3p BT.out
      replace HP := hid (HP.out.keep HG1.out); replace HQ := hid (HQ.out.keep HG1.out)
      go_upto_region 5 with (first
        | (go_at_call 18; (with_reducible refine HFEW.out.mono ?_); rintro e _ ⟨rfl, hg⟩; replace HG := hid (grown_trans HG1.out hg); replace k0 := hg.cell k0' (by simp); replace k1 := hg.cell k1' (by simp); replace k2 := hg.cell k2' (by simp); replace BT := hid (keepB BT.out hg); replace HP := hid (HP.out.keep hg); replace HQ := hid (HQ.out.keep hg); clear hg)
        | (go_at_call 12; (with_reducible refine (HSH.out _).mono ?_); rintro e _ ⟨rfl, hg⟩; replace HG := hid (grown_trans HG.out hg); replace k0 := hg.cell k0 (by simp); replace k1 := hg.cell k1 (by simp); replace k2 := hg.cell k2 (by simp); replace BT := hid (keepB BT.out hg); replace HP := hid (HP.out.keep hg); replace HQ := hid (HQ.out.keep hg); clear hg)
        | (go_at_call 19; (with_reducible refine (HRT.out _ HG.out).mono ?_); rintro e _ ⟨rfl, hg⟩; replace HG := hid (grown_trans HG.out hg); replace k0 := hg.cell k0 (by simp); replace k1 := hg.cell k1 (by simp); replace k2 := hg.cell k2 (by simp); replace BT := hid (keepB BT.out hg); replace HP := hid (HP.out.keep hg); replace HQ := hid (HQ.out.keep hg); clear hg)
        | (go_at_call 20; (with_reducible refine (CEq.out _ _ _ _ _ _ _  HG.out HP.out HQ.out).mono ?_); rintro e _ ⟨rfl, hg⟩; (try replace HP := hid (HP.out.keep hg)); (try replace HQ := hid (HQ.out.keep hg)); (try replace RN := hid (RN.out.keep hg)); (try replace RR := hid (RR.out.keep hg)); replace HG := hid (grown_trans HG.out hg); replace BT := hid (keepB BT.out hg); clear hg)
        | (go_at_call 16; (with_reducible refine (CREq.out _ _ _ _ _ _ _  HG.out HP.out HQ.out).mono ?_); rintro e _ ⟨rfl, hg⟩; (try replace HP := hid (HP.out.keep hg)); (try replace HQ := hid (HQ.out.keep hg)); (try replace RN := hid (RN.out.keep hg)); (try replace RR := hid (RR.out.keep hg)); replace HG := hid (grown_trans HG.out hg); replace BT := hid (keepB BT.out hg); clear hg)
        | (go_at_call 21; (with_reducible refine (CCmp.out _ _ _ _ _ _ _  HG.out HP.out HQ.out).mono ?_); rintro e _ ⟨rfl, hg⟩; (try replace HP := hid (HP.out.keep hg)); (try replace HQ := hid (HQ.out.keep hg)); (try replace RN := hid (RN.out.keep hg)); (try replace RR := hid (RR.out.keep hg)); replace HG := hid (grown_trans HG.out hg); replace BT := hid (keepB BT.out hg); clear hg)
        | (go_at_call 22; (with_reducible refine (CRCmp.out _ _ _ _ _ _ _  HG.out HP.out HQ.out).mono ?_); rintro e _ ⟨rfl, hg⟩; (try replace HP := hid (HP.out.keep hg)); (try replace HQ := hid (HQ.out.keep hg)); (try replace RN := hid (RN.out.keep hg)); (try replace RR := hid (RR.out.keep hg)); replace HG := hid (grown_trans HG.out hg); replace BT := hid (keepB BT.out hg); clear hg)
        | (go_at_call 23; (with_reducible refine (CNeg.out _ _ _ _  HG.out HP.out).mono ?_); rintro e _ ⟨pRN, nRN, cRN, rfl, hh, hg⟩; (try replace HP := hid (HP.out.keep hg)); (try replace HQ := hid (HQ.out.keep hg)); (try replace RN := hid (RN.out.keep hg)); (try replace RR := hid (RR.out.keep hg)); have RN := hid hh; replace HG := hid (grown_trans HG.out hg); replace BT := hid (keepB BT.out hg); clear hh hg)
        | (go_at_call 24; (with_reducible refine (CRNeg.out _ _ _ _  HG.out HP.out).mono ?_); rintro e _ ⟨pRR, nRR, cRR, rfl, hh, hg⟩; (try replace HP := hid (HP.out.keep hg)); (try replace HQ := hid (HQ.out.keep hg)); (try replace RN := hid (RN.out.keep hg)); (try replace RR := hid (RR.out.keep hg)); have RR := hid hh; replace HG := hid (grown_trans HG.out hg); replace BT := hid (keepB BT.out hg); clear hh hg)
        | (go_at_call 16; (with_reducible refine (CQNeg.out _ _ _ _ _ _ _  HG.out RN.out RR.out).mono ?_); rintro e w5 ⟨rfl, hg⟩; (try replace HP := hid (HP.out.keep hg)); (try replace HQ := hid (HQ.out.keep hg)); (try replace RN := hid (RN.out.keep hg)); (try replace RR := hid (RR.out.keep hg)); replace HG := hid (grown_trans HG.out hg); replace BT := hid (keepB BT.out hg); clear hg))
      refine wp_region_noPanic ?_
      refine wp_region_held_drew (S := (fun W => W.heap[bt]? = some (.cells #[.bool g1, .slice p1 n1 c1, .slice q1 m1 d1] 29 (0, 0)))) (by kernel_rfl) ?_ (fun hHeld => ?_)
      · (try dsimp only)
        exact keepB BT.out (grown_drew _ none)
      have hgg := grown_trans HG.out (grown_drew w5 none)
      have hp := HP.out.keep (grown_drew w5 none)
      have hq := HQ.out.keep (grown_drew w5 none)
      generalize w5.drew = wd at *
      refine wpAnyH_take (i := 0) (oi := Oper.mk _ _ _ _ _ _) (v := ?_) rfl (by kernel_rfl) (by kernel_rfl) (by kernel_rfl) (fun _ _ _ h => h) (Or.inl ⟨by kernel_rfl, ?_⟩) hHeld ?_
      rotate_left 1
      · intro W hSw
        (try dsimp only at hSw)
        obtain ⟨j0, j1, j2⟩ := box3p hSw
        go_simp
        (try (with_reducible rfl))
      (try simp only [Act.put, List.setIfInBounds_toArray, List.set_cons_zero, List.set_cons_succ])
      refine wpAnyH_take (i := 1) (oi := Oper.mk _ _ _ _ _ _) (v := ?_) rfl (by kernel_rfl) (by kernel_rfl) (by kernel_rfl) (fun _ _ _ h => h) (Or.inl ⟨by kernel_rfl, ?_⟩) hHeld ?_
      rotate_left 1
      · intro W hSw
        (try dsimp only at hSw)
        obtain ⟨j0, j1, j2⟩ := box3p hSw
        go_simp
        (try (with_reducible rfl))
      (try simp only [Act.put, List.setIfInBounds_toArray, List.set_cons_zero, List.set_cons_succ])
      refine wpAnyH_take (i := 3) (oi := Oper.mk _ _ _ _ _ _) (v := ?_) rfl (by kernel_rfl) (by kernel_rfl) (by kernel_rfl) (fun _ _ _ h => h) (Or.inl ⟨by kernel_rfl, ?_⟩) hHeld ?_
      rotate_left 1
      · intro W hSw
        (try dsimp only at hSw)
        obtain ⟨j0, j1, j2⟩ := box3p hSw
        go_simp
        (try (with_reducible rfl))
      (try simp only [Act.put, List.setIfInBounds_toArray, List.set_cons_zero, List.set_cons_succ])
      refine wpAnyH_take (i := 4) (oi := Oper.mk _ _ _ _ _ _) (v := ?_) rfl (by kernel_rfl) (by kernel_rfl) (by kernel_rfl) (fun _ _ _ h => h) (Or.inl ⟨by kernel_rfl, ?_⟩) hHeld ?_
      rotate_left 1
      · intro W hSw
        (try dsimp only at hSw)
        obtain ⟨j0, j1, j2⟩ := box3p hSw
        go_simp
        (try (with_reducible rfl))
      (try simp only [Act.put, List.setIfInBounds_toArray, List.set_cons_zero, List.set_cons_succ])
      refine wpAnyH_ready (rs := [2]) (by kernel_rfl) (by simp) ?_
      refine AllReadyH.cons (o := Oper.mk _ _ _ _ _ _) rfl (fun K hK => ?_) AllReadyH.nil
      (try rw [if_pos (by kernel_rfl)])
      go_simp
      go_at_call 25
      refine (CAdd.out _ _ _ _ _ _ _  hgg hp hq).mono ?_
      rintro e wy1 ⟨pA1, nA1, cA1, rfl, hA1, hgS⟩
      replace hgg := grown_trans hgg hgS
      replace hp := hp.keep hgS
      replace hq := hq.keep hgS
      refine hK.out _ _ ?_ (fun hNew => ?_)
      · have hH := hHeld
        (try dsimp only at hH)
        (try dsimp only)
        first | with_reducible exact hH | exact keepB hH hgS
      clear hK K hHeld
      have hHeld := hNew
      clear hNew
      (try simp only [Act.put, List.setIfInBounds_toArray, List.set_cons_zero, List.set_cons_succ])
      clear hgS
      refine wpAnyH_ready (rs := [5]) (by kernel_rfl) (by simp) ?_
      refine AllReadyH.cons (o := Oper.mk _ _ _ _ _ _) rfl (fun K hK => ?_) AllReadyH.nil
      (try rw [if_pos (by kernel_rfl)])
      go_simp
      go_at_call 26
      refine (CRAdd.out _ _ _ _ _ _ _  hgg hp hq).mono ?_
      rintro e wy2 ⟨pB1, nB1, cB1, rfl, hB1, hgS⟩
      replace hgg := grown_trans hgg hgS
      replace hp := hp.keep hgS
      replace hq := hq.keep hgS
      replace hA1 := hA1.keep hgS
      refine hK.out _ _ ?_ (fun hNew => ?_)
      · have hH := hHeld
        (try dsimp only at hH)
        (try dsimp only)
        first | with_reducible exact hH | exact keepB hH hgS
      clear hK K hHeld
      have hHeld := hNew
      clear hNew
      (try simp only [Act.put, List.setIfInBounds_toArray, List.set_cons_zero, List.set_cons_succ])
      clear hgS
      refine wpAnyH_ready (rs := [6]) (by kernel_rfl) (by simp) ?_
      refine AllReadyH.cons (o := Oper.mk _ _ _ _ _ _) rfl (fun K hK => ?_) AllReadyH.nil
      (try rw [if_pos (by kernel_rfl)])
      go_simp
      go_at_call 16
      refine (CQAdd.out _ _ _ _ _ _ _ hgg hA1 hB1).mono ?_
      rintro e wy3 ⟨rfl, hgS⟩
      replace hgg := grown_trans hgg hgS
      replace hp := hp.keep hgS
      replace hq := hq.keep hgS
      replace hA1 := hA1.keep hgS
      replace hB1 := hB1.keep hgS
      refine hK.out _ _ ?_ (fun hNew => ?_)
      · have hH := hHeld
        (try dsimp only at hH)
        (try dsimp only)
        first | with_reducible exact hH | exact keepB hH hgS
      clear hK K hHeld
      have hHeld := hNew
      clear hNew
      (try simp only [Act.put, List.setIfInBounds_toArray, List.set_cons_zero, List.set_cons_succ])
      clear hgS
      refine wpAnyH_take (i := 7) (oi := Oper.mk _ _ _ _ _ _) (v := ?_) rfl (by kernel_rfl) (by kernel_rfl) (by kernel_rfl) (fun _ _ _ h => h) (Or.inl ⟨by kernel_rfl, ?_⟩) hHeld ?_
      rotate_left 1
      · intro W hSw
        (try dsimp only at hSw)
        obtain ⟨j0, j1, j2⟩ := box3p hSw
        go_simp
        (try (with_reducible rfl))
      (try simp only [Act.put, List.setIfInBounds_toArray, List.set_cons_zero, List.set_cons_succ])
      refine wpAnyH_take (i := 8) (oi := Oper.mk _ _ _ _ _ _) (v := ?_) rfl (by kernel_rfl) (by kernel_rfl) (by kernel_rfl) (fun _ _ _ h => h) (Or.inl ⟨by kernel_rfl, ?_⟩) hHeld ?_
      rotate_left 1
      · intro W hSw
        (try dsimp only at hSw)
        obtain ⟨j0, j1, j2⟩ := box3p hSw
        go_simp
        (try (with_reducible rfl))
      (try simp only [Act.put, List.setIfInBounds_toArray, List.set_cons_zero, List.set_cons_succ])
      refine wpAnyH_take (i := 9) (oi := Oper.mk _ _ _ _ _ _) (v := ?_) rfl (by kernel_rfl) (by kernel_rfl) (by kernel_rfl) (fun _ _ _ h => h) (Or.inl ⟨by kernel_rfl, ?_⟩) hHeld ?_
      rotate_left 1
      · intro W hSw
        (try dsimp only at hSw)
        obtain ⟨j0, j1, j2⟩ := box3p hSw
        go_simp
        (try (with_reducible rfl))
      (try simp only [Act.put, List.setIfInBounds_toArray, List.set_cons_zero, List.set_cons_succ])
      refine wpAnyH_take (i := 11) (oi := Oper.mk _ _ _ _ _ _) (v := ?_) rfl (by kernel_rfl) (by kernel_rfl) (by kernel_rfl) (fun _ _ _ h => h) (Or.inl ⟨by kernel_rfl, ?_⟩) hHeld ?_
      rotate_left 1
      · intro W hSw
        (try dsimp only at hSw)
        obtain ⟨j0, j1, j2⟩ := box3p hSw
        go_simp
        (try (with_reducible rfl))
      (try simp only [Act.put, List.setIfInBounds_toArray, List.set_cons_zero, List.set_cons_succ])
      refine wpAnyH_take (i := 12) (oi := Oper.mk _ _ _ _ _ _) (v := ?_) rfl (by kernel_rfl) (by kernel_rfl) (by kernel_rfl) (fun _ _ _ h => h) (Or.inl ⟨by kernel_rfl, ?_⟩) hHeld ?_
      rotate_left 1
      · intro W hSw
        (try dsimp only at hSw)
        obtain ⟨j0, j1, j2⟩ := box3p hSw
        go_simp
        (try (with_reducible rfl))
      (try simp only [Act.put, List.setIfInBounds_toArray, List.set_cons_zero, List.set_cons_succ])
      refine wpAnyH_ready (rs := [10]) (by kernel_rfl) (by simp) ?_
      refine AllReadyH.cons (o := Oper.mk _ _ _ _ _ _) rfl (fun K hK => ?_) AllReadyH.nil
      (try rw [if_pos (by kernel_rfl)])
      go_simp
      go_at_call 27
      refine (CSub.out _ _ _ _ _ _ _  hgg hp hq).mono ?_
      rintro e wy4 ⟨pA2, nA2, cA2, rfl, hA2, hgS⟩
      replace hgg := grown_trans hgg hgS
      replace hp := hp.keep hgS
      replace hq := hq.keep hgS
      replace hA1 := hA1.keep hgS
      replace hB1 := hB1.keep hgS
      refine hK.out _ _ ?_ (fun hNew => ?_)
      · have hH := hHeld
        (try dsimp only at hH)
        (try dsimp only)
        first | with_reducible exact hH | exact keepB hH hgS
      clear hK K hHeld
      have hHeld := hNew
      clear hNew
      (try simp only [Act.put, List.setIfInBounds_toArray, List.set_cons_zero, List.set_cons_succ])
      clear hgS
      refine wpAnyH_ready (rs := [13]) (by kernel_rfl) (by simp) ?_
      refine AllReadyH.cons (o := Oper.mk _ _ _ _ _ _) rfl (fun K hK => ?_) AllReadyH.nil
      (try rw [if_pos (by kernel_rfl)])
      go_simp
      go_at_call 28
      refine (CRSub.out _ _ _ _ _ _ _  hgg hp hq).mono ?_
      rintro e wy5 ⟨pB2, nB2, cB2, rfl, hB2, hgS⟩
      replace hgg := grown_trans hgg hgS
      replace hp := hp.keep hgS
      replace hq := hq.keep hgS
      replace hA1 := hA1.keep hgS
      replace hB1 := hB1.keep hgS
      replace hA2 := hA2.keep hgS
      refine hK.out _ _ ?_ (fun hNew => ?_)
      · have hH := hHeld
        (try dsimp only at hH)
        (try dsimp only)
        first | with_reducible exact hH | exact keepB hH hgS
      clear hK K hHeld
      have hHeld := hNew
      clear hNew
      (try simp only [Act.put, List.setIfInBounds_toArray, List.set_cons_zero, List.set_cons_succ])
      clear hgS
      refine wpAnyH_ready (rs := [14]) (by kernel_rfl) (by simp) ?_
      refine AllReadyH.cons (o := Oper.mk _ _ _ _ _ _) rfl (fun K hK => ?_) AllReadyH.nil
      (try rw [if_pos (by kernel_rfl)])
      go_simp
      go_at_call 16
      refine (CQSub.out _ _ _ _ _ _ _ hgg hA2 hB2).mono ?_
      rintro e wy6 ⟨rfl, hgS⟩
      replace hgg := grown_trans hgg hgS
      replace hp := hp.keep hgS
      replace hq := hq.keep hgS
      replace hA1 := hA1.keep hgS
      replace hB1 := hB1.keep hgS
      replace hA2 := hA2.keep hgS
      replace hB2 := hB2.keep hgS
      refine hK.out _ _ ?_ (fun hNew => ?_)
      · have hH := hHeld
        (try dsimp only at hH)
        (try dsimp only)
        first | with_reducible exact hH | exact keepB hH hgS
      clear hK K hHeld
      have hHeld := hNew
      clear hNew
      (try simp only [Act.put, List.setIfInBounds_toArray, List.set_cons_zero, List.set_cons_succ])
      clear hgS
      refine wpAnyH_take (i := 15) (oi := Oper.mk _ _ _ _ _ _) (v := ?_) rfl (by kernel_rfl) (by kernel_rfl) (by kernel_rfl) (fun _ _ _ h => h) (Or.inl ⟨by kernel_rfl, ?_⟩) hHeld ?_
      rotate_left 1
      · intro W hSw
        (try dsimp only at hSw)
        obtain ⟨j0, j1, j2⟩ := box3p hSw
        go_simp
        (try (with_reducible rfl))
      (try simp only [Act.put, List.setIfInBounds_toArray, List.set_cons_zero, List.set_cons_succ])
      refine wpAnyH_take (i := 16) (oi := Oper.mk _ _ _ _ _ _) (v := ?_) rfl (by kernel_rfl) (by kernel_rfl) (by kernel_rfl) (fun _ _ _ h => h) (Or.inl ⟨by kernel_rfl, ?_⟩) hHeld ?_
      rotate_left 1
      · intro W hSw
        (try dsimp only at hSw)
        obtain ⟨j0, j1, j2⟩ := box3p hSw
        go_simp
        (try (with_reducible rfl))
      (try simp only [Act.put, List.setIfInBounds_toArray, List.set_cons_zero, List.set_cons_succ])
      refine wpAnyH_take (i := 17) (oi := Oper.mk _ _ _ _ _ _) (v := ?_) rfl (by kernel_rfl) (by kernel_rfl) (by kernel_rfl) (fun _ _ _ h => h) (Or.inl ⟨by kernel_rfl, ?_⟩) hHeld ?_
      rotate_left 1
      · intro W hSw
        (try dsimp only at hSw)
        obtain ⟨j0, j1, j2⟩ := box3p hSw
        go_simp
        (try (with_reducible rfl))
      (try simp only [Act.put, List.setIfInBounds_toArray, List.set_cons_zero, List.set_cons_succ])
      refine wpAnyH_take (i := 18) (oi := Oper.mk _ _ _ _ _ _) (v := ?_) rfl (by kernel_rfl) (by kernel_rfl) (by kernel_rfl) (fun _ _ _ h => h) (Or.inl ⟨by kernel_rfl, ?_⟩) hHeld ?_
      rotate_left 1
      · intro W hSw
        (try dsimp only at hSw)
        obtain ⟨j0, j1, j2⟩ := box3p hSw
        go_simp
        (try (with_reducible rfl))
      (try simp only [Act.put, List.setIfInBounds_toArray, List.set_cons_zero, List.set_cons_succ])
      refine wpAnyH_take (i := 20) (oi := Oper.mk _ _ _ _ _ _) (v := ?_) rfl (by kernel_rfl) (by kernel_rfl) (by kernel_rfl) (fun _ _ _ h => h) (Or.inl ⟨by kernel_rfl, ?_⟩) hHeld ?_
      rotate_left 1
      · intro W hSw
        (try dsimp only at hSw)
        obtain ⟨j0, j1, j2⟩ := box3p hSw
        go_simp
        (try (with_reducible rfl))
      (try simp only [Act.put, List.setIfInBounds_toArray, List.set_cons_zero, List.set_cons_succ])
      refine wpAnyH_take (i := 21) (oi := Oper.mk _ _ _ _ _ _) (v := ?_) rfl (by kernel_rfl) (by kernel_rfl) (by kernel_rfl) (fun _ _ _ h => h) (Or.inl ⟨by kernel_rfl, ?_⟩) hHeld ?_
      rotate_left 1
      · intro W hSw
        (try dsimp only at hSw)
        obtain ⟨j0, j1, j2⟩ := box3p hSw
        go_simp
        (try (with_reducible rfl))
      (try simp only [Act.put, List.setIfInBounds_toArray, List.set_cons_zero, List.set_cons_succ])
      refine wpAnyH_ready (rs := [19]) (by kernel_rfl) (by simp) ?_
      refine AllReadyH.cons (o := Oper.mk _ _ _ _ _ _) rfl (fun K hK => ?_) AllReadyH.nil
      (try rw [if_pos (by kernel_rfl)])
      go_simp
      go_at_call 29
      refine (CMul.out _ _ _ _ _ _ _  hgg hp hq).mono ?_
      rintro e wy7 ⟨pA3, nA3, cA3, rfl, hA3, hgS⟩
      replace hgg := grown_trans hgg hgS
      replace hp := hp.keep hgS
      replace hq := hq.keep hgS
      replace hA1 := hA1.keep hgS
      replace hB1 := hB1.keep hgS
      replace hA2 := hA2.keep hgS
      replace hB2 := hB2.keep hgS
      refine hK.out _ _ ?_ (fun hNew => ?_)
      · have hH := hHeld
        (try dsimp only at hH)
        (try dsimp only)
        first | with_reducible exact hH | exact keepB hH hgS
      clear hK K hHeld
      have hHeld := hNew
      clear hNew
      (try simp only [Act.put, List.setIfInBounds_toArray, List.set_cons_zero, List.set_cons_succ])
      clear hgS
      refine wpAnyH_ready (rs := [22]) (by kernel_rfl) (by simp) ?_
      refine AllReadyH.cons (o := Oper.mk _ _ _ _ _ _) rfl (fun K hK => ?_) AllReadyH.nil
      (try rw [if_pos (by kernel_rfl)])
      go_simp
      go_at_call 30
      refine (CRMul.out _ _ _ _ _ _ _  hgg hp hq).mono ?_
      rintro e wy8 ⟨pB3, nB3, cB3, rfl, hB3, hgS⟩
      replace hgg := grown_trans hgg hgS
      replace hp := hp.keep hgS
      replace hq := hq.keep hgS
      replace hA1 := hA1.keep hgS
      replace hB1 := hB1.keep hgS
      replace hA2 := hA2.keep hgS
      replace hB2 := hB2.keep hgS
      replace hA3 := hA3.keep hgS
      refine hK.out _ _ ?_ (fun hNew => ?_)
      · have hH := hHeld
        (try dsimp only at hH)
        (try dsimp only)
        first | with_reducible exact hH | exact keepB hH hgS
      clear hK K hHeld
      have hHeld := hNew
      clear hNew
      (try simp only [Act.put, List.setIfInBounds_toArray, List.set_cons_zero, List.set_cons_succ])
      clear hgS
      refine wpAnyH_ready (rs := [23]) (by kernel_rfl) (by simp) ?_
      refine AllReadyH.cons (o := Oper.mk _ _ _ _ _ _) rfl (fun K hK => ?_) AllReadyH.nil
      (try rw [if_pos (by kernel_rfl)])
      go_simp
      go_at_call 16
      refine (CQMul.out _ _ _ _ _ _ _ hgg hA3 hB3).mono ?_
      rintro e wy9 ⟨rfl, hgS⟩
      replace hgg := grown_trans hgg hgS
      replace hp := hp.keep hgS
      replace hq := hq.keep hgS
      replace hA1 := hA1.keep hgS
      replace hB1 := hB1.keep hgS
      replace hA2 := hA2.keep hgS
      replace hB2 := hB2.keep hgS
      replace hA3 := hA3.keep hgS
      replace hB3 := hB3.keep hgS
      refine hK.out _ _ ?_ (fun hNew => ?_)
      · have hH := hHeld
        (try dsimp only at hH)
        (try dsimp only)
        first | with_reducible exact hH | exact keepB hH hgS
      clear hK K hHeld
      have hHeld := hNew
      clear hNew
      (try simp only [Act.put, List.setIfInBounds_toArray, List.set_cons_zero, List.set_cons_succ])
      clear hgS
      refine wpAnyH_take (i := 24) (oi := Oper.mk _ _ _ _ _ _) (v := ?_) rfl (by kernel_rfl) (by kernel_rfl) (by kernel_rfl) (fun _ _ _ h => h) (Or.inl ⟨by kernel_rfl, ?_⟩) hHeld ?_
      rotate_left 1
      · intro W hSw
        (try dsimp only at hSw)
        obtain ⟨j0, j1, j2⟩ := box3p hSw
        go_simp
        (try (with_reducible rfl))
      (try simp only [Act.put, List.setIfInBounds_toArray, List.set_cons_zero, List.set_cons_succ])
      refine wpAnyH_take (i := 25) (oi := Oper.mk _ _ _ _ _ _) (v := ?_) rfl (by kernel_rfl) (by kernel_rfl) (by kernel_rfl) (fun _ _ _ h => h) (Or.inl ⟨by kernel_rfl, ?_⟩) hHeld ?_
      rotate_left 1
      · intro W hSw
        (try dsimp only at hSw)
        obtain ⟨j0, j1, j2⟩ := box3p hSw
        go_simp
        (try (with_reducible rfl))
      (try simp only [Act.put, List.setIfInBounds_toArray, List.set_cons_zero, List.set_cons_succ])
      refine wpAnyH_take (i := 26) (oi := Oper.mk _ _ _ _ _ _) (v := ?_) rfl (by kernel_rfl) (by kernel_rfl) (by kernel_rfl) (fun _ _ _ h => h) (Or.inl ⟨by kernel_rfl, ?_⟩) hHeld ?_
      rotate_left 1
      · intro W hSw
        (try dsimp only at hSw)
        obtain ⟨j0, j1, j2⟩ := box3p hSw
        go_simp
        (try (with_reducible rfl))
      (try simp only [Act.put, List.setIfInBounds_toArray, List.set_cons_zero, List.set_cons_succ])
      refine wpAnyH_take (i := 27) (oi := Oper.mk _ _ _ _ _ _) (v := ?_) rfl (by kernel_rfl) (by kernel_rfl) (by kernel_rfl) (fun _ _ _ h => h) (Or.inl ⟨by kernel_rfl, ?_⟩) hHeld ?_
      rotate_left 1
      · intro W hSw
        (try dsimp only at hSw)
        obtain ⟨j0, j1, j2⟩ := box3p hSw
        go_simp
        (try (with_reducible rfl))
      (try simp only [Act.put, List.setIfInBounds_toArray, List.set_cons_zero, List.set_cons_succ])
      refine wpAnyH_take (i := 29) (oi := Oper.mk _ _ _ _ _ _) (v := ?_) rfl (by kernel_rfl) (by kernel_rfl) (by kernel_rfl) (fun _ _ _ h => h) (Or.inl ⟨by kernel_rfl, ?_⟩) hHeld ?_
      rotate_left 1
      · intro W hSw
        (try dsimp only at hSw)
        obtain ⟨j0, j1, j2⟩ := box3p hSw
        go_simp
        (try (with_reducible rfl))
      (try simp only [Act.put, List.setIfInBounds_toArray, List.set_cons_zero, List.set_cons_succ])
      refine wpAnyH_take (i := 30) (oi := Oper.mk _ _ _ _ _ _) (v := ?_) rfl (by kernel_rfl) (by kernel_rfl) (by kernel_rfl) (fun _ _ _ h => h) (Or.inl ⟨by kernel_rfl, ?_⟩) hHeld ?_
      rotate_left 1
      · intro W hSw
        (try dsimp only at hSw)
        obtain ⟨j0, j1, j2⟩ := box3p hSw
        go_simp
        (try (with_reducible rfl))
      (try simp only [Act.put, List.setIfInBounds_toArray, List.set_cons_zero, List.set_cons_succ])
      refine wpAnyH_ready (rs := [28]) (by kernel_rfl) (by simp) ?_
      refine AllReadyH.cons (o := Oper.mk _ _ _ _ _ _) rfl (fun K hK => ?_) AllReadyH.nil
      (try rw [if_pos (by kernel_rfl)])
      go_simp
      go_at_call 31
      refine (CSca.out _ _ _ _  hgg hp).mono ?_
      rintro e wy10 ⟨pA4, nA4, cA4, rfl, hA4, hgS⟩
      replace hgg := grown_trans hgg hgS
      replace hp := hp.keep hgS
      replace hq := hq.keep hgS
      replace hA1 := hA1.keep hgS
      replace hB1 := hB1.keep hgS
      replace hA2 := hA2.keep hgS
      replace hB2 := hB2.keep hgS
      replace hA3 := hA3.keep hgS
      replace hB3 := hB3.keep hgS
      refine hK.out _ _ ?_ (fun hNew => ?_)
      · have hH := hHeld
        (try dsimp only at hH)
        (try dsimp only)
        first | with_reducible exact hH | exact keepB hH hgS
      clear hK K hHeld
      have hHeld := hNew
      clear hNew
      (try simp only [Act.put, List.setIfInBounds_toArray, List.set_cons_zero, List.set_cons_succ])
      clear hgS
      refine wpAnyH_ready (rs := [31]) (by kernel_rfl) (by simp) ?_
      refine AllReadyH.cons (o := Oper.mk _ _ _ _ _ _) rfl (fun K hK => ?_) AllReadyH.nil
      (try rw [if_pos (by kernel_rfl)])
      go_simp
      go_at_call 32
      refine (CRSca.out _ _ _ _  hgg hp).mono ?_
      rintro e wy11 ⟨pB4, nB4, cB4, rfl, hB4, hgS⟩
      replace hgg := grown_trans hgg hgS
      replace hp := hp.keep hgS
      replace hq := hq.keep hgS
      replace hA1 := hA1.keep hgS
      replace hB1 := hB1.keep hgS
      replace hA2 := hA2.keep hgS
      replace hB2 := hB2.keep hgS
      replace hA3 := hA3.keep hgS
      replace hB3 := hB3.keep hgS
      replace hA4 := hA4.keep hgS
      refine hK.out _ _ ?_ (fun hNew => ?_)
      · have hH := hHeld
        (try dsimp only at hH)
        (try dsimp only)
        first | with_reducible exact hH | exact keepB hH hgS
      clear hK K hHeld
      have hHeld := hNew
      clear hNew
      (try simp only [Act.put, List.setIfInBounds_toArray, List.set_cons_zero, List.set_cons_succ])
      clear hgS
      refine wpAnyH_ready (rs := [32]) (by kernel_rfl) (by simp) ?_
      refine AllReadyH.cons (o := Oper.mk _ _ _ _ _ _) rfl (fun K hK => ?_) AllReadyH.nil
      (try rw [if_pos (by kernel_rfl)])
      go_simp
      go_at_call 16
      refine (CQSca.out _ _ _ _ _ _ _ hgg hA4 hB4).mono ?_
      rintro e wy12 ⟨rfl, hgS⟩
      replace hgg := grown_trans hgg hgS
      replace hp := hp.keep hgS
      replace hq := hq.keep hgS
      replace hA1 := hA1.keep hgS
      replace hB1 := hB1.keep hgS
      replace hA2 := hA2.keep hgS
      replace hB2 := hB2.keep hgS
      replace hA3 := hA3.keep hgS
      replace hB3 := hB3.keep hgS
      replace hA4 := hA4.keep hgS
      replace hB4 := hB4.keep hgS
      refine hK.out _ _ ?_ (fun hNew => ?_)
      · have hH := hHeld
        (try dsimp only at hH)
        (try dsimp only)
        first | with_reducible exact hH | exact keepB hH hgS
      clear hK K hHeld
      have hHeld := hNew
      clear hNew
      (try simp only [Act.put, List.setIfInBounds_toArray, List.set_cons_zero, List.set_cons_succ])
      clear hgS
      refine wpAnyH_take (i := 33) (oi := Oper.mk _ _ _ _ _ _) (v := ?_) rfl (by kernel_rfl) (by kernel_rfl) (by kernel_rfl) (fun _ _ _ h => h) (Or.inl ⟨by kernel_rfl, ?_⟩) hHeld ?_
      rotate_left 1
      · intro W hSw
        (try dsimp only at hSw)
        obtain ⟨j0, j1, j2⟩ := box3p hSw
        go_simp
        (try (with_reducible rfl))
      (try simp only [Act.put, List.setIfInBounds_toArray, List.set_cons_zero, List.set_cons_succ])
      refine wpAnyH_take (i := 34) (oi := Oper.mk _ _ _ _ _ _) (v := ?_) rfl (by kernel_rfl) (by kernel_rfl) (by kernel_rfl) (fun _ _ _ h => h) (Or.inl ⟨by kernel_rfl, ?_⟩) hHeld ?_
      rotate_left 1
      · intro W hSw
        (try dsimp only at hSw)
        obtain ⟨j0, j1, j2⟩ := box3p hSw
        go_simp
        (try (with_reducible rfl))
      (try simp only [Act.put, List.setIfInBounds_toArray, List.set_cons_zero, List.set_cons_succ])
      refine wpAnyH_ready (rs := [35]) (by kernel_rfl) (by simp) ?_
      refine AllReadyH.cons (o := Oper.mk _ _ _ _ _ _) rfl (fun K hK => ?_) AllReadyH.nil
      (try rw [if_pos (by kernel_rfl)])
      go_simp
      go_at_call 11
      refine (CAl.out _ hgg).mono ?_
      rintro e wy13 ⟨rfl, hgS⟩
      replace hgg := grown_trans hgg hgS
      replace hp := hp.keep hgS
      replace hq := hq.keep hgS
      replace hA1 := hA1.keep hgS
      replace hB1 := hB1.keep hgS
      replace hA2 := hA2.keep hgS
      replace hB2 := hB2.keep hgS
      replace hA3 := hA3.keep hgS
      replace hB3 := hB3.keep hgS
      replace hA4 := hA4.keep hgS
      replace hB4 := hB4.keep hgS
      refine hK.out _ _ ?_ (fun hNew => ?_)
      · have hH := hHeld
        (try dsimp only at hH)
        (try dsimp only)
        first | with_reducible exact hH | exact keepB hH hgS
      clear hK K hHeld
      have hHeld := hNew
      clear hNew
      (try simp only [Act.put, List.setIfInBounds_toArray, List.set_cons_zero, List.set_cons_succ])
      clear hgS
      refine wpAnyH_take (i := 36) (oi := Oper.mk _ _ _ _ _ _) (v := ?_) rfl (by kernel_rfl) (by kernel_rfl) (by kernel_rfl) (fun _ _ _ h => h) (Or.inl ⟨by kernel_rfl, ?_⟩) hHeld ?_
      rotate_left 1
      · intro W hSw
        (try dsimp only at hSw)
        obtain ⟨j0, j1, j2⟩ := box3p hSw
        go_simp
        (try (with_reducible rfl))
      (try simp only [Act.put, List.setIfInBounds_toArray, List.set_cons_zero, List.set_cons_succ])
      refine wpAnyH_ready (rs := [37]) (by kernel_rfl) (by simp) ?_
      refine AllReadyH.cons (o := Oper.mk _ _ _ _ _ _) rfl (fun K hK => ?_) AllReadyH.nil
      (try rw [if_pos (by kernel_rfl)])
      go_simp
      refine hK.out _ _ ?_ (fun hNew => ?_)
      · have hH := hHeld
        (try dsimp only at hH)
        (try dsimp only)
        first | with_reducible exact hH | exact keepB hH hgS
      clear hK K hHeld
      have hHeld := hNew
      clear hNew
      (try simp only [Act.put, List.setIfInBounds_toArray, List.set_cons_zero, List.set_cons_succ])
      refine wpAnyH_done (by kernel_rfl) ?_ _
      refine NoPanic.normal ?_
      clear hHeld
      go_wp2_with fail
      go_ret
      exact ⟨rfl, hgg⟩
  · clear T hP hQ hr0 hx hr1 hy V1 V2
    cases bb
    · clear hfew
      go_enter Tryz.func4, Tryz.ntmps4
      go_upto_region 1 with fail
      rw [← HBT.out]
      clear hbt HBT
      generalize w.alloc _ = w0 at *
      have HFEW := hid (HFW.out w0 HG.out)
      have BT := hid (keepB B0.out (World.grownBy_alloc w0 (.cells #[.slice p n c, .slice q m d] 35 (0, 0)) none))
      have HG1 := hid (grown_trans HG.out (World.grownBy_alloc w0 (.cells #[.slice p n c, .slice q m d] 35 (0, 0)) none))
      obtain ⟨k0', k1', k2'⟩ := box3p BT.out
      go_wp2_with (first
        | (go_at_call 18; (with_reducible refine HFEW.out.mono ?_); rintro e _ ⟨rfl, hg⟩; replace HG := hid (grown_trans HG1.out hg); replace k0 := hg.cell k0' (by simp); replace k1 := hg.cell k1' (by simp); replace k2 := hg.cell k2' (by simp); clear hg)
        | (go_at_call 12; (with_reducible refine (HSH.out _).mono ?_); rintro e _ ⟨rfl, hg⟩; replace HG := hid (grown_trans HG.out hg); replace k0 := hg.cell k0 (by simp); replace k1 := hg.cell k1 (by simp); replace k2 := hg.cell k2 (by simp); clear hg)
        | (go_at_call 11; (with_reducible refine (CAl.out _ HG.out).mono ?_); rintro e _ ⟨rfl, hg⟩; replace HG := hid (grown_trans HG.out hg); clear hg))
      go_ret
      exact ⟨rfl, HG.out⟩
    · have hns : decide (n1 ≤ 4 ∧ m1 ≤ 4) = false := decide_eq_false fun h => hfew ⟨rfl, h⟩
      rw [hns] at HSH
      clear hfew hns
      go_enter Tryz.func4, Tryz.ntmps4
      go_upto_region 1 with fail
      rw [← HBT.out]
      clear hbt HBT
      generalize w.alloc _ = w0 at *
      have HFEW := hid (HFW.out w0 HG.out)
      have BT := hid (keepB B0.out (World.grownBy_alloc w0 (.cells #[.slice p n c, .slice q m d] 35 (0, 0)) none))
      have HG1 := hid (grown_trans HG.out (World.grownBy_alloc w0 (.cells #[.slice p n c, .slice q m d] 35 (0, 0)) none))
      obtain ⟨k0', k1', k2'⟩ := box3p BT.out
      go_wp2_with (first
        | (go_at_call 18; (with_reducible refine HFEW.out.mono ?_); rintro e _ ⟨rfl, hg⟩; replace HG := hid (grown_trans HG1.out hg); replace k0 := hg.cell k0' (by simp); replace k1 := hg.cell k1' (by simp); replace k2 := hg.cell k2' (by simp); clear hg)
        | (go_at_call 12; (with_reducible refine (HSH.out _).mono ?_); rintro e _ ⟨rfl, hg⟩; replace HG := hid (grown_trans HG.out hg); replace k0 := hg.cell k0 (by simp); replace k1 := hg.cell k1 (by simp); replace k2 := hg.cell k2 (by simp); clear hg)
        | (go_at_call 11; (with_reducible refine (CAl.out _ HG.out).mono ?_); rintro e _ ⟨rfl, hg⟩; replace HG := hid (grown_trans HG.out hg); clear hg))
      go_ret
      exact ⟨rfl, HG.out⟩
theorem readPoly6 : Tryz.prog.readableRec 35 = true := by kernel_rfl
theorem rowPoly6 : 35 < Tryz.prog.types.size := of_decide_eq_true (by kernel_rfl)

theorem polyAdds_door (os : Os) (args : Array Value) : laidMetH Tryz.prog [("math/bits.deBruijn64tab", Rows.laid_math_bits_deBruijn64tab)] ((World.doorLaid Tryz.prog 400 os).forCall (fun _ _ => 0) ⟨#[], args, []⟩).memory :=
  laidMetH_of_parts3 (fuel := 8) (laidMet_of_run' 8 (by kernel_rfl) (by kernel_rfl)) (by kernel_rfl) (by kernel_rfl)

set_option maxRecDepth 100000 in
theorem polyAdds_lifted (os : Os) (started : os.Started) (H : Type) (enc : TypeId × Value → H) :
    ReturnsInHanded {} Tryz.checked os 4 .any (fun w args => (Rows.polyAddsSpec.pre enc Tryz.prog Tryz.f4 [] false w args ∧ laidMetH Tryz.prog [("math/bits.deBruijn64tab", Rows.laid_math_bits_deBruijn64tab)] w) ∧ sizedMet enc Tryz.prog Tryz.f4 (OpenSpec.ofChange Rows.polyAddsSpec) false w args)
      (Rows.polyAddsSpec.post enc Tryz.prog Tryz.f4 false true false false) := by
  refine returnsInHanded_of_change_and (C := Tryz.checked) (X := fun w _ => laidMetH Tryz.prog [("math/bits.deBruijn64tab", Rows.laid_math_bits_deBruijn64tab)] w) (fun _ _ _ hh h => h.of_heap hh) own1 started (by kernel_rfl) Tryz.func4
    (ChangeSpec.witness_shaped (enc := enc) (C := Tryz.checked) (os := os) (X := fun w _ => laidMetH Tryz.prog [("math/bits.deBruijn64tab", Rows.laid_math_bits_deBruijn64tab)] w) false (World.doorLaid Tryz.prog 400 os) #[.slice none 0 0, .slice none 0 0, .agg #[.bool false, .slice none 0 0, .slice none 0 0]] 8 rfl (World.shaped_of_RefB (by kernel_rfl) (by kernel_rfl)) (by kernel_rfl) (by kernel_rfl) (by kernel_rfl) (polyAdds_door os _)) ?_
  intro W base args ds gs before hval0 hW _ _ hL _
  have hval : ∀ (j : Nat) t v, Tryz.f4.params[j]? = some t → args[j]? = some v → Value.okWide Tryz.prog W .any base t v := hval0
  have hW' := hW
  obtain ⟨p, q, hA0, hV, rfl, hfz, hnd⟩ := hW
  have hA : DataW.TrodAll enc Tryz.prog W 0 (fun _ => true) true Tryz.f4.params.toList args.toList ds p := hA0
  rw [Tryz.params4] at hA hval
  obtain ⟨v0, v1, v2, d0, d1, d2, p0, p1, p2, rfl, rfl, rfl, h0, h1, h2⟩ := trodAll_three hA
  obtain ⟨rfl, rfl⟩ := trodVars_none hV
  have hlt : ∀ x ∈ p0 ++ (p1 ++ (p2)), x.block < W.heap.size := fun x hx => hW'.lt x (by simpa using hx)
  obtain ⟨a0, len0, cap0, rfl⟩ := okWide_slice Tryz.underlying35 (hval 0 35 v0 rfl rfl)
  obtain ⟨fuel0, hf0⟩ := h0
  obtain ⟨pp0, n0, c0, P0, N0, M0, hcp0, hR0⟩ := open_termsP Tryz.underlying35 hf0
  have hcq0 : Value.slice a0 len0 cap0 = .slice pp0 n0 c0 := by
    have h : [Value.slice a0 len0 cap0] = [Value.slice pp0 n0 c0] := hcp0
    exact (List.cons.inj h).1
  obtain ⟨a1, len1, cap1, rfl⟩ := okWide_slice Tryz.underlying35 (hval 1 35 v1 rfl rfl)
  obtain ⟨fuel1, hf1⟩ := h1
  obtain ⟨pp1, n1, c1, P1, N1, M1, hcp1, hR1⟩ := open_termsP Tryz.underlying35 hf1
  have hcq1 : Value.slice a1 len1 cap1 = .slice pp1 n1 c1 := by
    have h : [Value.slice a1 len1 cap1] = [Value.slice pp1 n1 c1] := hcp1
    exact (List.cons.inj h).1
  have hk2 := h2
  obtain ⟨g2, a2, n2, c2, xs2, b2, m2, e2, ys2, rfl, hx2, dx2, hy2, dy2⟩ := open_Rat (hval 2 29 v2 rfl rfl) h2
  have hw := polyAdds_walk (tb_of_laid hL) hR0 hR1 g2 hx2 dx2 hy2 dy2
  rw [← hcq0, ← hcq1] at hw
  refine hw.mono fun e W' ⟨he, hg⟩ => ?_
  subst he
  have hB := grown_below hg
  exact ⟨_, rfl, _, _, _, [], _, [], hW', trodAll_mk1 (shut_bool Tryz.underlying4 true),
    trodAll_mk3 (Below.trod laidOut1 readPoly6 rowPoly6 ⟨fuel0, hf0⟩ hB fun x hx => hlt x (by simp [hx])) (Below.trod laidOut1 readPoly6 rowPoly6 ⟨fuel1, hf1⟩ hB fun x hx => hlt x (by simp [hx])) (Below.trod laidOut1 readRat rowRat hk2 hB fun x hx => hlt x (by simp [hx])), rfl, hB.frame _, fun h => by cases h⟩

theorem polyAdds_holds : Rows.PolyAddsSaid :=
  OpenClaim.holds_of_wide 4 Tryz.f4 rfl rfl rfl rfl rfl rfl rfl ⟨rfl, rfl, rfl, rfl, rfl⟩ rfl rfl rfl rfl rfl (by kernel_rfl) Tryz.func4 (by kernel_rfl)
    (of_decide_eq_true (by kernel_rfl)) (by unfold Func.isWrapper; first | (rw [if_pos (by decide +kernel)]; kernel_rfl) | (rw [if_neg (by decide +kernel)]; exact ⟨rfl, rfl⟩))
    (fun os started H enc _ => polyAdds_lifted os started H enc)

theorem polyAdds_card : Rows.PolyAddsCardSaid :=
  Claim7.holds_tied_plain_at .later [] [.data] true _ false
    polyAdds_holds (fun _ h => by cases h) (by kernel_rfl) (fun _ h => by cases h) polyAdds_row_tie rfl ⟨rfl, rfl⟩ (by kernel_rfl) rfl
    (fun f fn hf hfn => by
      obtain rfl : f = 4 := Option.some.inj ((show Tryz.prog.funcNamed "geoprover/geoproverlaw06.PolyAdds" = some 4 by kernel_rfl).symm.trans hf) |>.symm
      obtain rfl : fn = Tryz.f4 := (Option.some.inj (Tryz.func4.symm.trans hfn)).symm
      exact ⟨by kernel_rfl, fun j t ht => by
        rw [Tryz.params4] at ht
        have hm : t ∈ [35, 35, 29] := by simpa using Array.mem_of_getElem? ht
        have hall : ([35, 35, 29].all fun u => !Tryz.prog.wantsStandIn u) = true := by kernel_rfl
        exact (show Tryz.prog.wantsStandIn t = false by simpa using List.all_eq_true.1 hall t hm)⟩)
    (by kernel_rfl)

end Go.Proofs.YtceoegmflbgckaaGreatDoor
