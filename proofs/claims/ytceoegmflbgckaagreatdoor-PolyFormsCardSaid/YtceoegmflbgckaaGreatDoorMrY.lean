/-
  Whatever the terms are, the Go function PolyForms returns true and leaves them as they are. Condition: the table of package math/bits holds what the program's text lays (the card ties it).
-/
import Derived.Test.YtceoegmflbgckaaGreatDoorMrX
import Derived.Test.YtceoegmflbgckaaGreatDoorMrS
import Derived.Test.YtceoegmflbgckaaGreatDoorMrR
import Derived.OpenShut
import Derived.ChangeMaps5
import Derived.Lib.LaidTab
import Derived.Deep.RegionHeld3
import Derived.Deep.DeepCutAuto

set_option linter.unusedVariables false
set_option linter.unusedSimpArgs false
namespace Go.Proofs.YtceoegmflbgckaaGreatDoor
open Go.ChangeShapes Go.WideShapes Go.ChangeAt Go.RowKit _root_.Nm
open Go Go.ChangeMaps
/-- the term i is short enough for the law -/
def okL (P : List Tm) (N1 N2 : Nat → Nat) (i : Nat) : Prop := (tmI P i).1.length ≤ 70 ∧ N1 i ≤ 4 ∧ N2 i ≤ 4
set_option maxHeartbeats 32000000 in
set_option maxRecDepth 100000 in
theorem polyForms_walk {w : World} (T : Tb w) {p : Option Addr} {n c : Nat} {P : List Tm} {N1 N2 : Nat → Nat} (hP : IsR w p n c P N1 N2) :
    Calls Tryz.prog 3 #[.slice p n c] w fun e w' => e = .returned (.bool true) ∧ w.grownBy w' none := by
  have hl := hP.len; have hc := hP.cap; have hmx := hP.max
  have CAl := hid fun W (hg : w.grownBy W none) => alive6_v (T.keep hg)
  have HT := hid T; have HI := hid hP; have HL := hid hl
  have HG0 := hid (grown_refl w none)
  clear T hP hl
  by_cases hn : n ≤ 12
  · go_enter Tryz.func3, Tryz.ntmps3
    go_wp2_with fail
    go_loopw [3] (fun x wr => ∃ (i : Nat), i ≤ n ∧ x = .int .i64 i ∧ Hid (w.grownBy wr none) ∧ Hid (∀ j, j < i → okL P N1 N2 j)) (fun x _ => n - (intOf x).toNat)
    case atStart => exact ⟨0, Nat.zero_le _, rfl, HG0, hid fun j h => absurd h (Nat.not_lt_zero j)⟩
    case round =>
      clear HG0
      obtain ⟨i, hi, rfl, HG, HS⟩ := hrel
      by_cases hlt : i < n
      · have hil : i < P.length := by have := HL.out; omega
        obtain ⟨b, o, cs, rfl, hcs, g, p1, c1, q1, d1, a, k, e, xs, ys, rfl, hX, hY, -, hZ, -⟩ := (HI.out.keep HG.out).tms i hil
        have x0 := hcs 0 (by simp); have x1 := hcs 1 (by simp); have x2 := hcs 2 (by simp); have x3 := hcs 3 (by simp)
        simp only [List.getElem_cons_zero, List.getElem_cons_succ, Nat.add_zero] at x0 x1 x2 x3
        have HTI := hid (tmI_at hil)
        have hkl := hZ.len
        have HKL : Hid ((tmI P i).1.length = k) := hid (by rw [HTI.out]; exact hkl)
        obtain ⟨n1, hn1⟩ : ∃ x, x = N1 i := ⟨_, rfl⟩
        obtain ⟨n2, hn2⟩ : ∃ x, x = N2 i := ⟨_, rfl⟩
        rw [← hn1] at x1 hX
        rw [← hn2] at x2 hY
        have HSH := hid fun W => short_v (w := W) g p1 n1 c1 q1 n2 d1 ⟨hX.cap, hX.max⟩ ⟨hY.cap, hY.max⟩
        have hkc := hZ.cap; have hkm := hZ.max
        have HN1 := hid hn1; have HN2 := hid hn2
        clear hcs hX hY hZ hn1 hn2 hkl HTI
        by_cases hk : k ≤ 70
        · by_cases hs : n1 ≤ 4 ∧ n2 ≤ 4
          · rw [decide_eq_true hs] at HSH
            have HOK : Hid (okL P N1 N2 i) := hid ⟨by rw [HKL.out]; exact hk, by rw [← HN1.out]; exact hs.1, by rw [← HN2.out]; exact hs.2⟩
            clear hs
            go_wp2_with (go_at_call 12; (with_reducible refine (HSH.out _).mono ?_); rintro e _ ⟨rfl, hg⟩; replace HG := hid (grown_trans HG.out hg); clear hg)
            refine ⟨⟨i + 1, by omega, by go_num, HG, hid fun j hj => ?_⟩, by simp [intOf]; omega⟩
            by_cases e : j = i
            · subst e; exact HOK.out
            · exact HS.out j (by omega)
          · rw [decide_eq_false hs] at HSH
            clear hs
            go_wp2_with (first
            | (go_at_call 12; (with_reducible refine (HSH.out _).mono ?_); rintro e _ ⟨rfl, hg⟩; replace HG := hid (grown_trans HG.out hg); clear hg)
            | (go_at_call 11; (with_reducible refine (CAl.out _ HG.out).mono ?_); rintro e _ ⟨rfl, hg⟩; replace HG := hid (grown_trans HG.out hg); clear hg))
            go_ret
            exact ⟨rfl, HG.out⟩
        · go_wp2_with (first
            | (go_at_call 12; (with_reducible refine (HSH.out _).mono ?_); rintro e _ ⟨rfl, hg⟩; replace HG := hid (grown_trans HG.out hg); clear hg)
            | (go_at_call 11; (with_reducible refine (CAl.out _ HG.out).mono ?_); rintro e _ ⟨rfl, hg⟩; replace HG := hid (grown_trans HG.out hg); clear hg))
          go_ret
          exact ⟨rfl, HG.out⟩
      · obtain rfl : i = n := by omega
        have hok := HS.out
        have hsh : ∀ j, j < i → N1 j ≤ 4 ∧ N2 j ≤ 4 := fun j hj => (hok j hj).2
        obtain ⟨R, hR⟩ := HI.out.q HT.out (fun j hj => ⟨by have := (hsh j hj).1; omega, by have := (hsh j hj).2; omega⟩)
        have CPR := hid fun W (hg : w.grownBy W none) => pRight6_w R HL.out hc hmx (fun j hj => (hR j hj).keep hg)
        have CRR := hid fun W (hg : w.grownBy W none) => rRight6_w R HL.out hc hmx (fun j hj => (hR j hj).keep hg)
        have CN := hid fun W (hg : w.grownBy W none) => norm6_v 4 (HT.out.keep hg) (HI.out.keep hg) (by omega) (by omega) (by omega) hsh
        have CRN := hid fun W (hg : w.grownBy W none) => rNorm6_v 4 (HI.out.keep hg) (by omega) (by omega) (by omega) hsh (fun j hj => by have := (hok j (by have := HL.out; omega)).1; rw [tmI_at hj] at this; omega)
        have kN : Pk 9000 1048576 12 (normP P) := by
          obtain ⟨t1, t2, t3⟩ := tot_facts (g := fun i => normT (tmI P i)) (L := 1) (M := 4) (B := 1048576) P.length 0 P.length (by omega) (fun j _ hj => ⟨normT_len _, fun u hu => by
            rw [(normT_mem hu).1, tmI_at hj]
            obtain ⟨b, o, cs, -, -, ht⟩ := HI.out.tms j hj
            exact ht.bd (by omega) (hsh j (by have := HL.out; omega)).1 (hsh j (by have := HL.out; omega)).2, fun u hu => (normT_mem hu).2.2⟩)
          have := HL.out
          exact ⟨NF.normP P, t2.mono (by omega), t3, by show (totB _ 0 P.length).length ≤ 12; omega⟩
        have CEQ := hid fun W (hg : w.grownBy W none) p1 n1 c1 p2 n2 c2 (h1 : IsP W p1 n1 c1 (normP P)) (h2 : IsP W p2 n2 c2 (normP P)) => kN.req_c h1 h2 (by omega) ⟨by omega, by omega⟩
        have CRP := hid fun W (hg : w.grownBy W none) p1 n1 c1 (h1 : IsP W p1 n1 c1 (normP P)) => kN.right_c (HT.out.keep hg) h1 (by omega) (by omega)
        obtain ⟨gb, hgb⟩ : ∃ g, g = goodP R P := ⟨_, rfl⟩
        rw [← hgb] at CPR CRR
        have hge : (gb == gb) = true := by simp
        unfold PPost at CN CRN
        clear hok hsh hR kN hgb HI HT
        go_wp2_with (first
          | (go_at_call 13; (with_reducible refine (CN.out _ HG.out).mono ?_); rintro e _ ⟨pRN, nRN, cRN, rfl, hh, hg⟩; replace HG := hid (grown_trans HG.out hg); (try replace RN := hid (RN.out.keep hg)); (try replace RM := hid (RM.out.keep hg)); have RN := hid hh; clear hh hg)
          | (go_at_call 14; (with_reducible refine (CPR.out _ HG.out).mono ?_); rintro e _ ⟨rfl, hg⟩; replace HG := hid (grown_trans HG.out hg); (try replace RN := hid (RN.out.keep hg)); (try replace RM := hid (RM.out.keep hg)); clear hg)
          | (go_at_call 15; (with_reducible refine (CRR.out _ HG.out).mono ?_); rintro e _ ⟨rfl, hg⟩; replace HG := hid (grown_trans HG.out hg); (try replace RN := hid (RN.out.keep hg)); (try replace RM := hid (RM.out.keep hg)); clear hg)
          | (go_at_call 17; (with_reducible refine (CRN.out _ HG.out).mono ?_); rintro e _ ⟨pRM, nRM, cRM, rfl, hh, hg⟩; replace HG := hid (grown_trans HG.out hg); (try replace RN := hid (RN.out.keep hg)); (try replace RM := hid (RM.out.keep hg)); have RM := hid hh; clear hh hg)
          | (go_at_call 16; (with_reducible refine (CEQ.out _ HG.out _ _ _ _ _ _ RN.out RM.out).mono ?_); rintro e _ ⟨rfl, hg⟩; replace HG := hid (grown_trans HG.out hg); (try replace RN := hid (RN.out.keep hg)); (try replace RM := hid (RM.out.keep hg)); clear hg)
          | (go_at_call 15; (with_reducible refine (CRP.out _ HG.out _ _ _ RN.out).mono ?_); rintro e _ ⟨rfl, hg⟩; replace HG := hid (grown_trans HG.out hg); (try replace RN := hid (RN.out.keep hg)); (try replace RM := hid (RM.out.keep hg)); clear hg)
          | (go_at_call 11; (with_reducible refine (CAl.out _ HG.out).mono ?_); rintro e _ ⟨rfl, hg⟩; replace HG := hid (grown_trans HG.out hg); clear hg))
        go_ret
        exact ⟨rfl, HG.out⟩
  · have HG := HG0
    go_enter Tryz.func3, Tryz.ntmps3
    go_wp2_with (go_at_call 11; (with_reducible refine (CAl.out _ HG.out).mono ?_); rintro e _ ⟨rfl, hg⟩; replace HG := hid (grown_trans HG.out hg); clear hg)
    go_ret
    exact ⟨rfl, HG.out⟩
theorem readTerms6 : Tryz.prog.readableRec 22 = true := by kernel_rfl
theorem rowTerms6 : 22 < Tryz.prog.types.size := of_decide_eq_true (by kernel_rfl)

theorem polyForms_door (os : Os) (args : Array Value) : laidMetH Tryz.prog [("math/bits.deBruijn64tab", Rows.laid_math_bits_deBruijn64tab)] ((World.doorLaid Tryz.prog 400 os).forCall (fun _ _ => 0) ⟨#[], args, []⟩).memory :=
  laidMetH_of_parts3 (fuel := 8) (laidMet_of_run' 8 (by kernel_rfl) (by kernel_rfl)) (by kernel_rfl) (by kernel_rfl)

set_option maxRecDepth 100000 in
theorem polyForms_lifted (os : Os) (started : os.Started) (H : Type) (enc : TypeId × Value → H) :
    ReturnsInHanded {} Tryz.checked os 3 .any (fun w args => (Rows.polyFormsSpec.pre enc Tryz.prog Tryz.f3 [] false w args ∧ laidMetH Tryz.prog [("math/bits.deBruijn64tab", Rows.laid_math_bits_deBruijn64tab)] w) ∧ sizedMet enc Tryz.prog Tryz.f3 (OpenSpec.ofChange Rows.polyFormsSpec) false w args)
      (Rows.polyFormsSpec.post enc Tryz.prog Tryz.f3 false true false false) := by
  refine returnsInHanded_of_change_and (C := Tryz.checked) (X := fun w _ => laidMetH Tryz.prog [("math/bits.deBruijn64tab", Rows.laid_math_bits_deBruijn64tab)] w) (fun _ _ _ hh h => h.of_heap hh) own1 started (by kernel_rfl) Tryz.func3
    (ChangeSpec.witness_shaped (enc := enc) (C := Tryz.checked) (os := os) (X := fun w _ => laidMetH Tryz.prog [("math/bits.deBruijn64tab", Rows.laid_math_bits_deBruijn64tab)] w) false (World.doorLaid Tryz.prog 400 os) #[.slice none 0 0] 8 rfl (World.shaped_of_RefB (by kernel_rfl) (by kernel_rfl)) (by kernel_rfl) (by kernel_rfl) (by kernel_rfl) (polyForms_door os _)) ?_
  intro W base args ds gs before hval0 hW _ _ hL _
  have hval : ∀ (j : Nat) t v, Tryz.f3.params[j]? = some t → args[j]? = some v → Value.okWide Tryz.prog W .any base t v := hval0
  have hW' := hW
  obtain ⟨p, q, hA0, hV, rfl, hfz, hnd⟩ := hW
  have hA : DataW.TrodAll enc Tryz.prog W 0 (fun _ => true) true Tryz.f3.params.toList args.toList ds p := hA0
  rw [Tryz.params3] at hA hval
  obtain ⟨v0, d0, rfl, rfl, h0⟩ := trodAll_one hA
  obtain ⟨rfl, rfl⟩ := trodVars_none hV
  have hlt : ∀ x ∈ p, x.block < W.heap.size := fun x hx => hW'.lt x (by simpa using hx)
  obtain ⟨a0, len0, cap0, rfl⟩ := okWide_slice Tryz.underlying22 (hval 0 22 v0 rfl rfl)
  obtain ⟨fuel0, hf0⟩ := h0
  obtain ⟨pp0, n0, c0, P0, N0, M0, hcp0, hR0⟩ := open_termsP Tryz.underlying22 hf0
  have hcq0 : Value.slice a0 len0 cap0 = .slice pp0 n0 c0 := by
    have h : [Value.slice a0 len0 cap0] = [Value.slice pp0 n0 c0] := hcp0
    exact (List.cons.inj h).1
  have hw := polyForms_walk (tb_of_laid hL) hR0
  rw [← hcq0] at hw
  refine hw.mono fun e W' ⟨he, hg⟩ => ?_
  subst he
  have hB := grown_below hg
  exact ⟨_, rfl, _, _, _, [], _, [], hW', trodAll_mk1 (shut_bool Tryz.underlying4 true),
    trodAll_mk1 (Below.trod laidOut1 readTerms6 rowTerms6 ⟨fuel0, hf0⟩ hB fun x hx => hlt x (by simp [hx])), rfl, hB.frame _, fun h => by cases h⟩

theorem polyForms_holds : Rows.PolyFormsSaid :=
  OpenClaim.holds_of_wide 3 Tryz.f3 rfl rfl rfl rfl rfl rfl rfl ⟨rfl, rfl, rfl, rfl, rfl⟩ rfl rfl rfl rfl rfl (by kernel_rfl) Tryz.func3 (by kernel_rfl)
    (of_decide_eq_true (by kernel_rfl)) (by unfold Func.isWrapper; first | (rw [if_pos (by decide +kernel)]; kernel_rfl) | (rw [if_neg (by decide +kernel)]; exact ⟨rfl, rfl⟩))
    (fun os started H enc _ => polyForms_lifted os started H enc)

theorem polyForms_card : Rows.PolyFormsCardSaid :=
  Claim7.holds_tied_plain_at .later [] [.data] true _ false
    polyForms_holds (fun _ h => by cases h) (by kernel_rfl) (fun _ h => by cases h) polyForms_row_tie rfl ⟨rfl, rfl⟩ (by kernel_rfl) rfl
    (fun f fn hf hfn => by
      obtain rfl : f = 3 := Option.some.inj ((show Tryz.prog.funcNamed "geoprover/geoproverlaw06.PolyForms" = some 3 by kernel_rfl).symm.trans hf) |>.symm
      obtain rfl : fn = Tryz.f3 := (Option.some.inj (Tryz.func3.symm.trans hfn)).symm
      exact ⟨by kernel_rfl, fun j t ht => by
        rw [Tryz.params3] at ht
        have hm : t ∈ [22] := by simpa using Array.mem_of_getElem? ht
        have hall : ([22].all fun u => !Tryz.prog.wantsStandIn u) = true := by kernel_rfl
        exact (show Tryz.prog.wantsStandIn t = false by simpa using List.all_eq_true.1 hall t hm)⟩)
    (by kernel_rfl)

end Go.Proofs.YtceoegmflbgckaaGreatDoor
