/-
  Whatever the arguments are, the Go function NaturalGcds returns true and leaves them as they are. Condition: the table deBruijn64tab of package math/bits holds what the program's text lays (the card ties it).
-/
import Derived.Test.YtnfmjlomiihcnaaDoorGcd
import Derived.Test.YtnfmjlomiihcnaaDoorSmallB
import Derived.Test.YtnfmjlomiihcnaaDoorAliveA
import Derived.Test.YtnfmjlomiihcnaaDoorOpen
import Derived.Test.YtnfmjlomiihcnaaDoorTied
set_option linter.unusedVariables false
set_option linter.unusedSimpArgs false
namespace Go.Proofs.YtnfmjlomiihcnaaDoor
open Go.ChangeShapes Go.WideShapes Go.ChangeAt Go.RowKit Nm
open Go

theorem one_c (w : World) : IsC (w.alloc (.cells #[.int .u16 1] 37)) (some ⟨w.heap.size, 0, none⟩) 1 1 1 := by
  have e : dg 65536 1 = [1] := by rw [dg_step 1 (by omega)]; simp [dg_zero]
  unfold IsC
  rw [e]
  exact one_rd w _ _ _ 1 rfl
theorem cmp_zero : cmpI ((0 : Nat) : Int) ((0 : Nat) : Int) = 0 := cmpI_eq _
theorem IsC.zero_len {w : World} {p : Option Addr} {n c N : Nat} (h : IsC w p n c N) : (n = 0 ∧ N = 0) ∨ (0 < n ∧ 0 < N) := by
  have hl := h.len
  rcases Nat.eq_zero_or_pos N with h0 | h0
  · subst h0
    rw [dg_zero] at hl
    exact .inl ⟨by simpa using hl.symm, rfl⟩
  · refine .inr ⟨?_, h0⟩
    rcases Nat.eq_zero_or_pos n with h1 | h1
    · have e := V_dg (B := 65536) (by omega) N
      rw [List.eq_nil_of_length_eq_zero (hl.trans h1)] at e
      simp at e; omega
    · exact h1
theorem IsC.no_len {w : World} {p : Option Addr} {n c N : Nat} (h : IsC w p n c N) (e : N = 0) : n = 0 := by
  rcases h.zero_len with h1 | h1
  · exact h1.1
  · omega
set_option maxHeartbeats 4000000 in
theorem naturalGcds_walk (a b : Option Addr) (n c m d A B : Nat) (w : World) (T : Tb w) (hA : IsN w a n c A) (hB : IsN w b m d B) :
    Calls Tryd.prog 6 #[.slice a n c, .slice b m d] w fun e w' => e = .returned (.bool true) ∧ w.grownBy w' none := by
  have hS := small1_pair a b n c m d w
  have hW : w.grownBy w none := grown_refl _ _
  by_cases h24 : n ≤ 24 ∧ m ≤ 24
  rotate_left
  · rw [decide_eq_false h24] at hS
    have HS := hid hS
    clear hS h24
    go_enter Tryd.func6, Tryd.ntmps6
    go_wp2_with fail
    refine HS.out.mono ?_
    rintro e w0 ⟨rfl, hW⟩
    go_wp2_with fail
    refine (alive1 _).mono ?_
    rintro e w1 ⟨rfl, hg⟩
    go_wp2_with fail
    go_ret
    exact ⟨rfl, grown_trans hW hg⟩
  rw [decide_eq_true h24] at hS
  obtain ⟨hn, hm⟩ := h24
  have HS := hid hS
  clear hS
  go_enter Tryd.func6, Tryd.ntmps6
  go_wp2_with fail
  refine HS.out.mono ?_
  rintro e w0 ⟨rfl, hg⟩
  replace hA := hA.keep hg; replace hB := hB.keep hg; replace T := T.keep hg; replace hW := grown_trans hW hg; clear hg
  go_wp2_with fail
  refine (natGcd_n T hA hB (by omega) (by omega)).mono ?_
  rintro e w1 ⟨p1, n1, c1, rfl, g1, hn1, hg⟩
  replace hA := hA.keep hg; replace hB := hB.keep hg; replace T := T.keep hg; replace hW := grown_trans hW hg; clear hg
  have hn1' : n1 ≤ 24 := by omega
  rcases g1.zero_len with ⟨rfl, hz⟩ | ⟨h1, h2⟩
  · have hz1 : A = 0 := Nat.eq_zero_of_gcd_eq_zero_left hz
    have hz2 : B = 0 := Nat.eq_zero_of_gcd_eq_zero_right hz
    subst hz1
    subst hz2
    clear g1 hz
    go_wp2_with fail
    refine (natCmp_n hA (IsC.nil _).isN).mono ?_
    rw [cmp_zero]
    rintro e w2 ⟨rfl, hg⟩
    replace hA := hA.keep hg; replace hB := hB.keep hg; replace T := T.keep hg; replace hW := grown_trans hW hg; clear hg
    go_wp2_with fail
    refine (natCmp_n hB (IsC.nil _).isN).mono ?_
    rw [cmp_zero]
    rintro e w3 ⟨rfl, hg⟩
    replace hA := hA.keep hg; replace hB := hB.keep hg; replace T := T.keep hg; replace hW := grown_trans hW hg; clear hg
    go_wp2_with fail
    refine (alive1 _).mono ?_
    rintro e w4 ⟨rfl, hg⟩
    replace hA := hA.keep hg; replace hB := hB.keep hg; replace T := T.keep hg; replace hW := grown_trans hW hg; clear hg
    go_wp2_with fail
    go_ret
    exact ⟨rfl, hW⟩
  · have l1 : ((n1 : Int) == 0) = false := by simp; omega
    have hcop := hid (Nat.coprime_div_gcd_div_gcd h2)
    have hma : A % Nat.gcd A B = 0 := Nat.mod_eq_zero_of_dvd (Nat.gcd_dvd_left A B)
    have hmb : B % Nat.gcd A B = 0 := Nat.mod_eq_zero_of_dvd (Nat.gcd_dvd_right A B)
    have HMA := hid hma
    have HMB := hid hmb
    have HP := hid h2
    generalize Nat.gcd A B = D at *
    clear hma hmb h2
    go_wp2_with fail
    refine (natDivMod_n hA g1.isN (by omega) (by omega) HP.out).mono ?_
    rintro e w2 ⟨p2, n2, c2, u2, v2, z2, rfl, x1, r1, hn2, hm2, hmm2, hg⟩
    replace hA := hA.keep hg; replace hB := hB.keep hg; replace T := T.keep hg; replace g1 := g1.keep hg; replace hW := grown_trans hW hg; clear hg
    obtain rfl : v2 = 0 := r1.no_len HMA.out
    clear r1
    go_wp2_with fail
    refine (natDivMod_n hB g1.isN (by omega) (by omega) HP.out).mono ?_
    rintro e w3 ⟨p3, n3, c3, u3, v3, z3, rfl, y1, r2, hn3, hm3, hmm3, hg⟩
    replace hA := hA.keep hg; replace hB := hB.keep hg; replace T := T.keep hg; replace g1 := g1.keep hg; replace x1 := x1.keep hg; replace hW := grown_trans hW hg; clear hg
    obtain rfl : v3 = 0 := r2.no_len HMB.out
    clear r2
    go_wp2_with fail
    refine (natGcd_n T x1.isN y1.isN (by omega) (by omega)).mono ?_
    rintro e w4 ⟨p4, n4, c4, rfl, u1, hn4, hg⟩
    replace hA := hA.keep hg; replace hB := hB.keep hg; replace T := T.keep hg; replace g1 := g1.keep hg; replace x1 := x1.keep hg; replace y1 := y1.keep hg; replace hW := grown_trans hW hg; clear hg
    go_wp2_with fail
    have hg1 := World.grownBy_alloc w4 (.cells #[.int .u16 1] 37) none
    refine (same_c (u1.keep hg1) (one_c w4) hcop.out).mono ?_
    rintro e w5 ⟨rfl, hg2⟩
    have hg := grown_trans hg1 hg2
    clear hg1 hg2
    replace hA := hA.keep hg; replace hB := hB.keep hg; replace T := T.keep hg; replace g1 := g1.keep hg; replace x1 := x1.keep hg; replace y1 := y1.keep hg; replace u1 := u1.keep hg; replace hW := grown_trans hW hg; clear hg
    go_wp2_with fail
    refine (alive1 _).mono ?_
    rintro e w6 ⟨rfl, hg⟩
    replace hA := hA.keep hg; replace hB := hB.keep hg; replace T := T.keep hg; replace g1 := g1.keep hg; replace x1 := x1.keep hg; replace y1 := y1.keep hg; replace u1 := u1.keep hg; replace hW := grown_trans hW hg; clear hg
    go_wp2_with fail
    go_ret
    exact ⟨rfl, hW⟩

theorem naturalGcds_door (os : Os) (args : Array Value) : laidMetH Tryd.prog [("math/bits.deBruijn64tab", Rows.laid_math_bits_deBruijn64tab)] ((World.doorLaid Tryd.prog 400 os).forCall (fun _ _ => 0) ⟨#[], args, []⟩).memory :=
  laidMetH_of_parts3 (fuel := 8) (laidMet_of_run' 8 (by kernel_rfl) (by kernel_rfl)) (by kernel_rfl) (by kernel_rfl)

set_option maxRecDepth 100000 in
theorem naturalGcds_lifted (os : Os) (started : os.Started) (H : Type) (enc : TypeId × Value → H) :
    ReturnsInHanded {} Tryd.checked os 6 .any (fun w args => (Rows.naturalGcdsSpec.pre enc Tryd.prog Tryd.f6 [] false w args ∧ laidMetH Tryd.prog [("math/bits.deBruijn64tab", Rows.laid_math_bits_deBruijn64tab)] w) ∧ sizedMet enc Tryd.prog Tryd.f6 (OpenSpec.ofChange Rows.naturalGcdsSpec) false w args)
      (Rows.naturalGcdsSpec.post enc Tryd.prog Tryd.f6 false true false false) := by
  refine returnsInHanded_of_change_and (C := Tryd.checked) (X := fun w _ => laidMetH Tryd.prog [("math/bits.deBruijn64tab", Rows.laid_math_bits_deBruijn64tab)] w) (fun _ _ _ hh h => h.of_heap hh) own1 started (by kernel_rfl) Tryd.func6
    (ChangeSpec.witness_shaped (enc := enc) (C := Tryd.checked) (os := os) (X := fun w _ => laidMetH Tryd.prog [("math/bits.deBruijn64tab", Rows.laid_math_bits_deBruijn64tab)] w) false (World.doorLaid Tryd.prog 400 os) #[.slice none 0 0, .slice none 0 0] 8 rfl (World.shaped_of_RefB (by kernel_rfl) (by kernel_rfl)) (by kernel_rfl) (by kernel_rfl) (by kernel_rfl) (naturalGcds_door os _)) ?_
  intro W base args ds gs before hval0 hW _ _ hL _
  have hval : ∀ (j : Nat) t v, Tryd.f6.params[j]? = some t → args[j]? = some v → Value.okWide Tryd.prog W .any base t v := hval0
  have hW' := hW
  obtain ⟨p, q, hA0, hV, rfl, hfz, hnd⟩ := hW
  have hA : DataW.TrodAll enc Tryd.prog W 0 (fun _ => true) true Tryd.f6.params.toList args.toList ds p := hA0
  rw [Tryd.params6] at hA hval
  obtain ⟨v0, v1, d0, d1, p0, p1, rfl, rfl, rfl, h0, h1⟩ := trodAll_two hA
  obtain ⟨rfl, rfl⟩ := trodVars_none hV
  have hlt : ∀ x ∈ p0 ++ (p1), x.block < W.heap.size := fun x hx => hW'.lt x (by simpa using hx)
  obtain ⟨a, n, c, xs, rfl, hr0, hx0⟩ := open_nat (hval 0 23 v0 rfl rfl) h0
  obtain ⟨b, m, d, ys, rfl, hr1, hx1⟩ := open_nat (hval 1 23 v1 rfl rfl) h1
  refine (naturalGcds_walk a b n c m d _ _ W (tb_of_laid hL) (IsN.of hr0 hx0) (IsN.of hr1 hx1)).mono fun e W' ⟨he, hg⟩ => ?_
  subst he
  have hB := grown_below hg
  exact ⟨_, rfl, _, _, _, [], _, [], hW', trodAll_mk1 (shut_bool Tryd.underlying4 true),
    trodAll_mk2 (Below.trod laidOut1 readNat rowNat h0 hB fun x hx => hlt x (by simp [hx])) (Below.trod laidOut1 readNat rowNat h1 hB fun x hx => hlt x (by simp [hx])), rfl, hB.frame _, fun h => by cases h⟩

theorem naturalGcds_holds : Rows.NaturalGcdsSaid :=
  OpenClaim.holds_of_wide 6 Tryd.f6 rfl rfl rfl rfl rfl rfl rfl ⟨rfl, rfl, rfl, rfl, rfl⟩ rfl rfl rfl rfl rfl (by kernel_rfl) Tryd.func6 (by kernel_rfl)
    (of_decide_eq_true (by kernel_rfl)) (by unfold Func.isWrapper; first | (rw [if_pos (by decide +kernel)]; kernel_rfl) | (rw [if_neg (by decide +kernel)]; exact ⟨rfl, rfl⟩))
    (fun os started H enc _ => naturalGcds_lifted os started H enc)

theorem naturalGcds_card : Rows.NaturalGcdsCardSaid :=
  Claim7.holds_tied_plain_at .later [] [.data] true _ true
    naturalGcds_holds (fun _ h => by cases h) (by kernel_rfl) (fun _ h => by cases h) naturalGcds_row_tie rfl ⟨rfl, rfl⟩ (by kernel_rfl) rfl
    (fun f fn hf hfn => by
      obtain rfl : f = 6 := Option.some.inj ((show Tryd.prog.funcNamed "geoprover/geoproverlaw01.NaturalGcds" = some 6 by kernel_rfl).symm.trans hf) |>.symm
      obtain rfl : fn = Tryd.f6 := (Option.some.inj (Tryd.func6.symm.trans hfn)).symm
      exact ⟨by kernel_rfl, fun j t ht => by
        rw [Tryd.params6] at ht
        have hm : t ∈ [23, 23] := by simpa using Array.mem_of_getElem? ht
        have hall : ([23, 23].all fun u => !Tryd.prog.wantsStandIn u) = true := by kernel_rfl
        exact (show Tryd.prog.wantsStandIn t = false by simpa using List.all_eq_true.1 hall t hm)⟩)
    (by kernel_rfl)

end Go.Proofs.YtnfmjlomiihcnaaDoor
