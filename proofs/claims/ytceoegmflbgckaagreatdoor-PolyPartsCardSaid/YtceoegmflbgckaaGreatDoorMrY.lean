/-
  Whatever the polynomial and the order are, the Go function PolyParts returns true and leaves the polynomial as it is. Condition: the table of package math/bits holds what the program's text lays (the card ties it).
-/
import Derived.Test.YtceoegmflbgckaaGreatDoorMrZ
import Derived.Test.YtceoegmflbgckaaGreatDoorMrS
import Derived.Test.YtceoegmflbgckaaGreatDoorMrR
import Derived.OpenShut
import Derived.ChangeMaps5
import Derived.Lib.LaidTab
import Derived.Deep.RegionHeld3
import Derived.Deep.DeepCutAuto

set_option linter.unusedVariables false
set_option linter.unusedSimpArgs false
namespace Go.Proofs.YtceoegmflbgckaaGreatDoor
open Go.ChangeShapes Go.WideShapes Go.ChangeAt Go.RowKit _root_.Nm
open Go Go.ChangeMaps
theorem sameT {a b : Option Addr} {n m c d : Nat} {xs : List Int} {w : World} (h : ZRd w .i64 a n c xs) (k : ZRd w .i64 b m d xs) :
    Calls Tryz.prog 42 #[.slice a n c, .slice b m d] w fun e w' => e = .returned (.bool true) ∧ w.grownBy w' none := by
  have := sameM_any a b n m c d xs xs w h k
  rwa [decide_eq_true rfl] at this
set_option maxHeartbeats 32000000 in
set_option maxRecDepth 100000 in
theorem polyParts_walk {w : World} (T : Tb w) {p : Option Addr} {n c : Nat} {P : List Tm} {N1 N2 : Nat → Nat} (hP : IsR w p n c P N1 N2) (od : Int) :
    Calls Tryz.prog 6 #[.slice p n c, .int .i64 od] w fun e w' => e = .returned (.bool true) ∧ w.grownBy w' none := by
  have hmx := hP.max
  obtain ⟨b1, B1, V1⟩ := rSmall6_v T hP 8 64 1048576 (by omega) (by omega) (by omega)
  replace B1 := hid (show ∀ W, w.grownBy W none → Calls Tryz.prog 33 #[.slice p n c, .int .i64 8, .int .i64 64, .int .i64 1048576] W fun e w' => e = .returned (.bool b1) ∧ W.grownBy w' none from B1)
  have CAl := hid fun W (hg : w.grownBy W none) => alive6_v (T.keep hg)
  have HG := hid (grown_refl w none)
  cases b1
  · clear T hP V1
    go_enter Tryz.func6, Tryz.ntmps6
    go_wp2_with (first | (go_at_call 33; (with_reducible refine (B1.out _ HG.out).mono ?_); rintro e _ ⟨rfl, hg⟩; replace HG := hid (grown_trans HG.out hg); clear hg) | (go_at_call 11; (with_reducible refine (CAl.out _ HG.out).mono ?_); rintro e _ ⟨rfl, hg⟩; replace HG := hid (grown_trans HG.out hg); clear hg))
    go_ret
    exact ⟨rfl, HG.out⟩
  obtain ⟨hn, iP, nP, eP, dP, lP⟩ := V1 rfl
  have CV := hid fun W (hg : w.grownBy W none) => vars6_v (iP.keep hg) eP
  have CW := hid fun W (hg : w.grownBy W none) => rVars6_v (iP.keep hg)
  have CD := hid fun W (hg : w.grownBy W none) => degree6_v (iP.keep hg) eP
  have CRD := hid fun W (hg : w.grownBy W none) => rDegree6_v (iP.keep hg) eP
  obtain ⟨L, hL⟩ : ∃ L, L = vrL P 64 := ⟨_, rfl⟩
  rw [← hL] at CV CW
  have hL64 : L.length ≤ 64 := by rw [hL]; exact vrL_len P 64
  obtain ⟨dg, hdg⟩ : ∃ z, z = mxF (fun xs => degZ xs) (-1) P := ⟨_, rfl⟩
  rw [← hdg] at CD CRD
  have HIP := hid iP; have HBE := hid (And.intro dP (And.intro eP nP))
  have hdd : (dg != dg) = false := by simp
  clear T hP V1 iP nP eP dP lP hn hL hdg
  go_enter Tryz.func6, Tryz.ntmps6
  go_wp2_with (first | (go_at_call 33; (with_reducible refine (B1.out _ HG.out).mono ?_); rintro e _ ⟨rfl, hg⟩; replace HG := hid (grown_trans HG.out hg); clear hg) | (go_at_call 37; (with_reducible refine (CV.out _ HG.out).mono ?_); rintro e _ ⟨pRV, nRV, cRV, rfl, hz, hg⟩; obtain rfl := hz.len; replace HG := hid (grown_trans HG.out hg); (try replace RV := hid (RV.out.keep hg)); (try replace RW := hid (RW.out.keep hg)); have RV := hid hz; clear hz hg) | (go_at_call 38; (with_reducible refine (CW.out _ HG.out).mono ?_); rintro e _ ⟨pRW, nRW, cRW, rfl, hz, hg⟩; obtain rfl := hz.len; replace HG := hid (grown_trans HG.out hg); (try replace RV := hid (RV.out.keep hg)); (try replace RW := hid (RW.out.keep hg)); have RW := hid hz; clear hz hg) | (go_at_call 39; (with_reducible refine (CD.out _ HG.out).mono ?_); rintro e _ ⟨rfl, hg⟩; replace HG := hid (grown_trans HG.out hg); (try replace RV := hid (RV.out.keep hg)); (try replace RW := hid (RW.out.keep hg)); clear hg) | (go_at_call 34; (with_reducible refine (CRD.out _ HG.out).mono ?_); rintro e _ ⟨rfl, hg⟩; replace HG := hid (grown_trans HG.out hg); (try replace RV := hid (RV.out.keep hg)); (try replace RW := hid (RW.out.keep hg)); clear hg))
  go_loopw [7] (fun x wr => ∃ (i : Nat), i ≤ L.length ∧ x = .int .i64 i ∧ Hid (w.grownBy wr none) ∧ Hid (ZRd wr .i64 pRV L.length cRV L) ∧ Hid (ZRd wr .i64 pRW L.length cRW L)) (fun x _ => L.length - (intOf x).toNat)
  case atStart => exact ⟨0, Nat.zero_le _, rfl, HG, RV, RW⟩
  case round =>
    clear HG RV RW
    obtain ⟨i, hi, rfl, HG, RV, RW⟩ := hrel
    have hvc := RV.out.cap; have hvm := RV.out.max; have hwc := RW.out.cap; have hwm := RW.out.max
    by_cases hlt : i < L.length
    · obtain ⟨bv, ov, rfl, hcv⟩ := RV.out.cel i hlt
      obtain ⟨bw, ow, rfl, hcw⟩ := RW.out.cel i hlt
      obtain ⟨x, hx⟩ : ∃ x, x = L[i] := ⟨_, rfl⟩
      rw [← hx] at hcv hcw
      have hxx : (x != x) = false := by simp
      clear hx
      go_upto_region 9 with fail
      refine wp_region_noPanic ?_
      refine wp_region_held_drew (S := (fun W => W.cell? ⟨bv, ov + i, none⟩ = some (.int .i64 x) ∧ W.cell? ⟨bw, ow + i, none⟩ = some (.int .i64 x))) (by kernel_rfl) ?_ (fun hHeld => ?_)
      · (try dsimp only)
        exact ⟨(grown_drew _ none).cell hcv (by simp), (grown_drew _ none).cell hcw (by simp)⟩
      refine wpAnyH_take (i := 0) (oi := Oper.mk _ _ _ _ _ _) (v := ?_) rfl (by kernel_rfl) (by kernel_rfl) (by kernel_rfl) (fun _ _ _ h => h) (Or.inl ⟨by kernel_rfl, ?_⟩) hHeld ?_
      rotate_left 1
      · intro W hSw
        (try dsimp only at hSw)
        obtain ⟨h0, h1⟩ := hSw
        go_simp
        (try (with_reducible rfl))
      (try simp only [Act.put, List.setIfInBounds_toArray, List.set_cons_zero, List.set_cons_succ])
      refine wpAnyH_take (i := 1) (oi := Oper.mk _ _ _ _ _ _) (v := ?_) rfl (by kernel_rfl) (by kernel_rfl) (by kernel_rfl) (fun _ _ _ h => h) (Or.inl ⟨by kernel_rfl, ?_⟩) hHeld ?_
      rotate_left 1
      · intro W hSw
        (try dsimp only at hSw)
        obtain ⟨h0, h1⟩ := hSw
        go_simp
        (try (with_reducible rfl))
      (try simp only [Act.put, List.setIfInBounds_toArray, List.set_cons_zero, List.set_cons_succ])
      refine wpAnyH_take (i := 2) (oi := Oper.mk _ _ _ _ _ _) (v := ?_) rfl (by kernel_rfl) (by kernel_rfl) (by kernel_rfl) (fun _ _ _ h => h) (Or.inl ⟨by kernel_rfl, ?_⟩) hHeld ?_
      rotate_left 1
      · intro W hSw
        (try dsimp only at hSw)
        obtain ⟨h0, h1⟩ := hSw
        go_simp
        (try (with_reducible rfl))
      (try simp only [Act.put, List.setIfInBounds_toArray, List.set_cons_zero, List.set_cons_succ])
      refine wpAnyH_take (i := 3) (oi := Oper.mk _ _ _ _ _ _) (v := ?_) rfl (by kernel_rfl) (by kernel_rfl) (by kernel_rfl) (fun _ _ _ h => h) (Or.inl ⟨by kernel_rfl, ?_⟩) hHeld ?_
      rotate_left 1
      · intro W hSw
        (try dsimp only at hSw)
        obtain ⟨h0, h1⟩ := hSw
        go_simp
        (try (with_reducible rfl))
      (try simp only [Act.put, List.setIfInBounds_toArray, List.set_cons_zero, List.set_cons_succ])
      refine wpAnyH_take (i := 4) (oi := Oper.mk _ _ _ _ _ _) (v := ?_) rfl (by kernel_rfl) (by kernel_rfl) (by kernel_rfl) (fun _ _ _ h => h) (Or.inl ⟨by kernel_rfl, ?_⟩) hHeld ?_
      rotate_left 1
      · intro W hSw
        (try dsimp only at hSw)
        obtain ⟨h0, h1⟩ := hSw
        go_simp
        (try (with_reducible rfl))
      (try simp only [Act.put, List.setIfInBounds_toArray, List.set_cons_zero, List.set_cons_succ])
      refine wpAnyH_take (i := 5) (oi := Oper.mk _ _ _ _ _ _) (v := ?_) rfl (by kernel_rfl) (by kernel_rfl) (by kernel_rfl) (fun _ _ _ h => h) (Or.inl ⟨by kernel_rfl, ?_⟩) hHeld ?_
      rotate_left 1
      · intro W hSw
        (try dsimp only at hSw)
        obtain ⟨h0, h1⟩ := hSw
        go_simp
        (try (with_reducible rfl))
      (try simp only [Act.put, List.setIfInBounds_toArray, List.set_cons_zero, List.set_cons_succ])
      refine wpAnyH_take (i := 6) (oi := Oper.mk _ _ _ _ _ _) (v := ?_) rfl (by kernel_rfl) (by kernel_rfl) (by kernel_rfl) (fun _ _ _ h => h) (Or.inl ⟨by kernel_rfl, ?_⟩) hHeld ?_
      rotate_left 1
      · intro W hSw
        (try dsimp only at hSw)
        obtain ⟨h0, h1⟩ := hSw
        go_simp
        (try (with_reducible rfl))
      (try simp only [Act.put, List.setIfInBounds_toArray, List.set_cons_zero, List.set_cons_succ])
      refine wpAnyH_take (i := 7) (oi := Oper.mk _ _ _ _ _ _) (v := ?_) rfl (by kernel_rfl) (by kernel_rfl) (by kernel_rfl) (fun _ _ _ h => h) (Or.inl ⟨by kernel_rfl, ?_⟩) hHeld ?_
      rotate_left 1
      · intro W hSw
        (try dsimp only at hSw)
        obtain ⟨h0, h1⟩ := hSw
        go_simp
        (try (with_reducible rfl))
      (try simp only [Act.put, List.setIfInBounds_toArray, List.set_cons_zero, List.set_cons_succ])
      refine wpAnyH_take (i := 8) (oi := Oper.mk _ _ _ _ _ _) (v := ?_) rfl (by kernel_rfl) (by kernel_rfl) (by kernel_rfl) (fun _ _ _ h => h) (Or.inl ⟨by kernel_rfl, ?_⟩) hHeld ?_
      rotate_left 1
      · intro W hSw
        (try dsimp only at hSw)
        obtain ⟨h0, h1⟩ := hSw
        go_simp
        (try (with_reducible rfl))
      (try simp only [Act.put, List.setIfInBounds_toArray, List.set_cons_zero, List.set_cons_succ])
      refine wpAnyH_done (by kernel_rfl) ?_ _
      refine NoPanic.normal ?_
      clear hHeld
      go_wp2_with fail
      exact ⟨⟨i + 1, by omega, by go_num, hid (grown_trans HG.out (grown_drew _ none)), hid (RV.out.keep (grown_drew _ none)), hid (RW.out.keep (grown_drew _ none))⟩, by simp [intOf]; omega⟩
    · obtain rfl : i = L.length := by omega
      by_cases hn0 : n = 0
      · subst hn0
        have CL := hid fun W (hg : w.grownBy W none) => lead0_v (w := W) (p := p) od hmx
        have CRL := hid fun W (hg : w.grownBy W none) => rLead0_v (w := W) (p := p) od hmx
        go_upto_region 12 with (go_at_call 40; (with_reducible refine (CL.out _ HG.out).mono ?_); rintro e w1 ⟨rfl, hg⟩; replace HG := hid (grown_trans HG.out hg); clear hg; have gB := World.grownBy_alloc w1 (.cells #[.bool false, .slice none 0 0, .slice none 0 0, .slice none 0 0] 33 (0, 0)) none; have BB := hid (blk0 w1 (.cells #[.bool false, .slice none 0 0, .slice none 0 0, .slice none 0 0] 33 (0, 0))); obtain ⟨i0, i1, i2, i3⟩ := box4p (blk0 w1 (.cells #[.bool false, .slice none 0 0, .slice none 0 0, .slice none 0 0] 33 (0, 0))); have fa := fun o => frozen_of_row (w1.alloc (.cells #[.bool false, .slice none 0 0, .slice none 0 0, .slice none 0 0] 33 (0, 0))) w1.heap.size o _ _ (blk0 w1 (.cells #[.bool false, .slice none 0 0, .slice none 0 0, .slice none 0 0] 33 (0, 0))); have f0 := fa 0; have f1 := fa 1; have f2 := fa 2; have f3 := fa 3; clear fa)
        clear i0 i1 i2 i3 f0 f1 f2 f3
        obtain ⟨b8, hb8⟩ : ∃ x, x = w1.heap.size := ⟨_, rfl⟩
        rw [← hb8] at BB ⊢
        replace HG := hid (grown_trans HG.out gB)
        skip
        have B8 := BB
        clear gB BB hb8
        generalize w1.alloc _ = w1b at *
        go_upto_region 13 with (go_at_call 41; (with_reducible refine (CRL.out _ HG.out).mono ?_); rintro e w2 ⟨rfl, hg⟩; replace HG := hid (grown_trans HG.out hg); replace B8 := hid (keepB B8.out hg); clear hg; have gB := World.grownBy_alloc w2 (.cells #[.bool false, .slice none 0 0, .slice none 0 0, .slice none 0 0] 33 (0, 0)) none; have BB := hid (blk0 w2 (.cells #[.bool false, .slice none 0 0, .slice none 0 0, .slice none 0 0] 33 (0, 0))); obtain ⟨i0, i1, i2, i3⟩ := box4p (blk0 w2 (.cells #[.bool false, .slice none 0 0, .slice none 0 0, .slice none 0 0] 33 (0, 0))); have fa := fun o => frozen_of_row (w2.alloc (.cells #[.bool false, .slice none 0 0, .slice none 0 0, .slice none 0 0] 33 (0, 0))) w2.heap.size o _ _ (blk0 w2 (.cells #[.bool false, .slice none 0 0, .slice none 0 0, .slice none 0 0] 33 (0, 0))); have f0 := fa 0; have f1 := fa 1; have f2 := fa 2; have f3 := fa 3; clear fa)
        clear i0 i1 i2 i3 f0 f1 f2 f3
        obtain ⟨b9, hb9⟩ : ∃ x, x = w2.heap.size := ⟨_, rfl⟩
        rw [← hb9] at BB ⊢
        replace HG := hid (grown_trans HG.out gB)
        skip
        replace B8 := hid (keepB B8.out gB)
        clear gB hb9
        generalize w2.alloc _ = w2b at *
        obtain ⟨k0, k1', k2', k3⟩ := box4p B8.out
        obtain ⟨l0, l1, l2, l3⟩ := box4p BB.out
        clear B8 BB
        go_wp2_with (first | (go_at_call 42; (with_reducible refine (sameT (ZRd.nil _) (ZRd.nil _)).mono ?_); rintro e _ ⟨rfl, hg⟩; replace HG := hid (grown_trans HG.out hg); (try replace HV1 := hid (HV1.out.keep hg)); (try replace HV2 := hid (HV2.out.keep hg)); replace k0 := hg.cell k0 (by simp); replace k1' := hg.cell k1' (by simp); replace k2' := hg.cell k2' (by simp); replace k3 := hg.cell k3 (by simp); replace l0 := hg.cell l0 (by simp); replace l1 := hg.cell l1 (by simp); replace l2 := hg.cell l2 (by simp); replace l3 := hg.cell l3 (by simp); clear hg) | (go_at_call 43; (with_reducible refine (same3_any (IsI.zero _) (IsC.nil _) (IsI.zero _) (IsC.nil _) rfl rfl).mono ?_); rintro e _ ⟨rfl, hg⟩; replace HG := hid (grown_trans HG.out hg); clear hg) | (go_at_call 11; (with_reducible refine (CAl.out _ HG.out).mono ?_); rintro e _ ⟨rfl, hg⟩; replace HG := hid (grown_trans HG.out hg); clear hg))
        go_ret
        exact ⟨rfl, HG.out⟩
      · have hnp : 0 < n := by omega
        obtain ⟨b, o, cs, rfl, -, -⟩ := HIP.out.tms 0 (by have := HIP.out.len; omega)
        have CL := hid fun W (hg : w.grownBy W none) => lead6_v 4 od (HIP.out.keep hg) HBE.out.1 HBE.out.2.1 HBE.out.2.2 (by omega) hnp
        have CRL := hid fun W (hg : w.grownBy W none) => rLead6_v od (HIP.out.keep hg) HBE.out.2.1 hnp
        clear hnp hn0
        go_upto_region 12 with (go_at_call 40; (with_reducible refine (CL.out _ HG.out).mono ?_); rintro e w1 ⟨g1, p1, n1, c1, q1, m1, d1, a1, k1, e1, rfl, ⟨hV1, hX1⟩, hg⟩; have HV1 := hid hV1; have HX1 := hid hX1; replace HG := hid (grown_trans HG.out hg); clear hV1 hX1 hg; have gB := World.grownBy_alloc w1 (.cells #[.bool g1, .slice p1 n1 c1, .slice q1 m1 d1, .slice a1 k1 e1] 33 (0, 0)) none; have BB := hid (blk0 w1 (.cells #[.bool g1, .slice p1 n1 c1, .slice q1 m1 d1, .slice a1 k1 e1] 33 (0, 0))); obtain ⟨i0, i1, i2, i3⟩ := box4p (blk0 w1 (.cells #[.bool false, .slice none 0 0, .slice none 0 0, .slice none 0 0] 33 (0, 0))); have fa := fun o => frozen_of_row (w1.alloc (.cells #[.bool false, .slice none 0 0, .slice none 0 0, .slice none 0 0] 33 (0, 0))) w1.heap.size o _ _ (blk0 w1 (.cells #[.bool false, .slice none 0 0, .slice none 0 0, .slice none 0 0] 33 (0, 0))); have f0 := fa 0; have f1 := fa 1; have f2 := fa 2; have f3 := fa 3; clear fa)
        clear i0 i1 i2 i3 f0 f1 f2 f3
        obtain ⟨b8, hb8⟩ : ∃ x, x = w1.heap.size := ⟨_, rfl⟩
        rw [← hb8] at BB ⊢
        replace HG := hid (grown_trans HG.out gB)
        replace HV1 := hid (HV1.out.keep gB); replace HX1 := hid (HX1.out.keep gB)
        have B8 := BB
        clear gB BB hb8
        generalize w1.alloc _ = w1b at *
        go_upto_region 13 with (go_at_call 41; (with_reducible refine (CRL.out _ HG.out).mono ?_); rintro e w2 ⟨g2, p2, n2, c2, q2, m2, d2, a2, k2, e2, rfl, ⟨hV2, hX2⟩, hg⟩; have HV2 := hid (hV2.keep hg); have HX2 := hid (hX2.keep hg); replace HV1 := hid (HV1.out.keep hg); replace HX1 := hid (HX1.out.keep hg); replace HG := hid (grown_trans HG.out hg); replace B8 := hid (keepB B8.out hg); clear hV2 hX2 hg; have gB := World.grownBy_alloc w2 (.cells #[.bool g2, .slice p2 n2 c2, .slice q2 m2 d2, .slice a2 k2 e2] 33 (0, 0)) none; have BB := hid (blk0 w2 (.cells #[.bool g2, .slice p2 n2 c2, .slice q2 m2 d2, .slice a2 k2 e2] 33 (0, 0))); obtain ⟨i0, i1, i2, i3⟩ := box4p (blk0 w2 (.cells #[.bool false, .slice none 0 0, .slice none 0 0, .slice none 0 0] 33 (0, 0))); have fa := fun o => frozen_of_row (w2.alloc (.cells #[.bool false, .slice none 0 0, .slice none 0 0, .slice none 0 0] 33 (0, 0))) w2.heap.size o _ _ (blk0 w2 (.cells #[.bool false, .slice none 0 0, .slice none 0 0, .slice none 0 0] 33 (0, 0))); have f0 := fa 0; have f1 := fa 1; have f2 := fa 2; have f3 := fa 3; clear fa)
        clear i0 i1 i2 i3 f0 f1 f2 f3
        obtain ⟨b9, hb9⟩ : ∃ x, x = w2.heap.size := ⟨_, rfl⟩
        rw [← hb9] at BB ⊢
        replace HG := hid (grown_trans HG.out gB)
        replace HV1 := hid (HV1.out.keep gB); replace HX1 := hid (HX1.out.keep gB); replace HV2 := hid (HV2.out.keep gB); replace HX2 := hid (HX2.out.keep gB)
        replace B8 := hid (keepB B8.out gB)
        clear gB hb9
        generalize w2.alloc _ = w2b at *
        obtain ⟨k0, k1', k2', k3⟩ := box4p B8.out
        obtain ⟨l0, l1, l2, l3⟩ := box4p BB.out
        clear B8 BB
        go_wp2_with (first | (go_at_call 42; (with_reducible refine (sameT HX1.out HX2.out).mono ?_); rintro e _ ⟨rfl, hg⟩; replace HG := hid (grown_trans HG.out hg); (try replace HV1 := hid (HV1.out.keep hg)); (try replace HV2 := hid (HV2.out.keep hg)); replace k0 := hg.cell k0 (by simp); replace k1' := hg.cell k1' (by simp); replace k2' := hg.cell k2' (by simp); replace k3 := hg.cell k3 (by simp); replace l0 := hg.cell l0 (by simp); replace l1 := hg.cell l1 (by simp); replace l2 := hg.cell l2 (by simp); replace l3 := hg.cell l3 (by simp); clear hg) | (go_at_call 43; (with_reducible refine (same3_v HV1.out HV2.out rfl).mono ?_); rintro e _ ⟨rfl, hg⟩; replace HG := hid (grown_trans HG.out hg); clear hg) | (go_at_call 11; (with_reducible refine (CAl.out _ HG.out).mono ?_); rintro e _ ⟨rfl, hg⟩; replace HG := hid (grown_trans HG.out hg); clear hg))
        go_ret
        exact ⟨rfl, HG.out⟩
theorem readPoly6 : Tryz.prog.readableRec 35 = true := by kernel_rfl
theorem rowPoly6 : 35 < Tryz.prog.types.size := of_decide_eq_true (by kernel_rfl)

theorem polyParts_door (os : Os) (args : Array Value) : laidMetH Tryz.prog [("math/bits.deBruijn64tab", Rows.laid_math_bits_deBruijn64tab)] ((World.doorLaid Tryz.prog 400 os).forCall (fun _ _ => 0) ⟨#[], args, []⟩).memory :=
  laidMetH_of_parts3 (fuel := 8) (laidMet_of_run' 8 (by kernel_rfl) (by kernel_rfl)) (by kernel_rfl) (by kernel_rfl)

set_option maxRecDepth 100000 in
theorem polyParts_lifted (os : Os) (started : os.Started) (H : Type) (enc : TypeId × Value → H) :
    ReturnsInHanded {} Tryz.checked os 6 .any (fun w args => (Rows.polyPartsSpec.pre enc Tryz.prog Tryz.f6 [] false w args ∧ laidMetH Tryz.prog [("math/bits.deBruijn64tab", Rows.laid_math_bits_deBruijn64tab)] w) ∧ sizedMet enc Tryz.prog Tryz.f6 (OpenSpec.ofChange Rows.polyPartsSpec) false w args)
      (Rows.polyPartsSpec.post enc Tryz.prog Tryz.f6 false true false false) := by
  refine returnsInHanded_of_change_and (C := Tryz.checked) (X := fun w _ => laidMetH Tryz.prog [("math/bits.deBruijn64tab", Rows.laid_math_bits_deBruijn64tab)] w) (fun _ _ _ hh h => h.of_heap hh) own1 started (by kernel_rfl) Tryz.func6
    (ChangeSpec.witness_shaped (enc := enc) (C := Tryz.checked) (os := os) (X := fun w _ => laidMetH Tryz.prog [("math/bits.deBruijn64tab", Rows.laid_math_bits_deBruijn64tab)] w) false (World.doorLaid Tryz.prog 400 os) #[.slice none 0 0, .int .i64 0] 8 rfl (World.shaped_of_RefB (by kernel_rfl) (by kernel_rfl)) (by kernel_rfl) (by kernel_rfl) (by kernel_rfl) (polyParts_door os _)) ?_
  intro W base args ds gs before hval0 hW _ _ hL _
  have hval : ∀ (j : Nat) t v, Tryz.f6.params[j]? = some t → args[j]? = some v → Value.okWide Tryz.prog W .any base t v := hval0
  have hW' := hW
  obtain ⟨p, q, hA0, hV, rfl, hfz, hnd⟩ := hW
  have hA : DataW.TrodAll enc Tryz.prog W 0 (fun _ => true) true Tryz.f6.params.toList args.toList ds p := hA0
  rw [Tryz.params6] at hA hval
  obtain ⟨v0, v1, d0, d1, p0, p1, rfl, rfl, rfl, h0, h1⟩ := trodAll_two hA
  obtain ⟨rfl, rfl⟩ := trodVars_none hV
  have hlt : ∀ x ∈ p0 ++ (p1), x.block < W.heap.size := fun x hx => hW'.lt x (by simpa using hx)
  obtain ⟨a0, len0, cap0, rfl⟩ := okWide_slice Tryz.underlying35 (hval 0 35 v0 rfl rfl)
  obtain ⟨fuel0, hf0⟩ := h0
  obtain ⟨pp0, n0, c0, P0, N0, M0, hcp0, hR0⟩ := open_termsP Tryz.underlying35 hf0
  have hcq0 : Value.slice a0 len0 cap0 = .slice pp0 n0 c0 := by
    have h : [Value.slice a0 len0 cap0] = [Value.slice pp0 n0 c0] := hcp0
    exact (List.cons.inj h).1
  obtain ⟨z1, rfl, rfl, rfl, hz1⟩ := open_int Tryz.underlying3 (hval 1 3 v1 rfl rfl) h1
  have hw := polyParts_walk (tb_of_laid hL) hR0 z1
  rw [← hcq0] at hw
  refine hw.mono fun e W' ⟨he, hg⟩ => ?_
  subst he
  have hB := grown_below hg
  exact ⟨_, rfl, _, _, _, [], _, [], hW', trodAll_mk1 (shut_bool Tryz.underlying4 true),
    trodAll_mk2 (Below.trod laidOut1 readPoly6 rowPoly6 ⟨fuel0, hf0⟩ hB fun x hx => hlt x (by simp [hx])) (shut_int Tryz.underlying3 hz1), rfl, hB.frame _, fun h => by cases h⟩

theorem polyParts_holds : Rows.PolyPartsSaid :=
  OpenClaim.holds_of_wide 6 Tryz.f6 rfl rfl rfl rfl rfl rfl rfl ⟨rfl, rfl, rfl, rfl, rfl⟩ rfl rfl rfl rfl rfl (by kernel_rfl) Tryz.func6 (by kernel_rfl)
    (of_decide_eq_true (by kernel_rfl)) (by unfold Func.isWrapper; first | (rw [if_pos (by decide +kernel)]; kernel_rfl) | (rw [if_neg (by decide +kernel)]; exact ⟨rfl, rfl⟩))
    (fun os started H enc _ => polyParts_lifted os started H enc)

theorem polyParts_card : Rows.PolyPartsCardSaid :=
  Claim7.holds_tied_plain_at .later [] [.data] true _ false
    polyParts_holds (fun _ h => by cases h) (by kernel_rfl) (fun _ h => by cases h) polyParts_row_tie rfl ⟨rfl, rfl⟩ (by kernel_rfl) rfl
    (fun f fn hf hfn => by
      obtain rfl : f = 6 := Option.some.inj ((show Tryz.prog.funcNamed "geoprover/geoproverlaw06.PolyParts" = some 6 by kernel_rfl).symm.trans hf) |>.symm
      obtain rfl : fn = Tryz.f6 := (Option.some.inj (Tryz.func6.symm.trans hfn)).symm
      exact ⟨by kernel_rfl, fun j t ht => by
        rw [Tryz.params6] at ht
        have hm : t ∈ [35, 3] := by simpa using Array.mem_of_getElem? ht
        have hall : ([35, 3].all fun u => !Tryz.prog.wantsStandIn u) = true := by kernel_rfl
        exact (show Tryz.prog.wantsStandIn t = false by simpa using List.all_eq_true.1 hall t hm)⟩)
    (by kernel_rfl)

end Go.Proofs.YtceoegmflbgckaaGreatDoor
