/-
  Whatever the arguments are, the Go function NaturalReads returns true and leaves them as they are. Condition: the tables of packages math/bits and internal/strconv, and the two errors of strconv, hold what the program's text lays (the card ties them).
-/
import Derived.Test.YtkggoniecmlglaaDoorNtext
import Derived.Test.YtkggoniecmlglaaDoorRtext
import Derived.Test.YtkggoniecmlglaaDoorNread
import Derived.Test.YtkggoniecmlglaaDoorRread
import Derived.Test.YtkggoniecmlglaaDoorSmallB
import Derived.Test.YtkggoniecmlglaaDoorAliveA
import Derived.Test.YtkggoniecmlglaaDoorOpen
import Derived.Test.YtkggoniecmlglaaDoorTiedK
import Derived.ChangeMaps5
set_option linter.unusedVariables false
set_option linter.unusedSimpArgs false
namespace Go.Proofs.YtkggoniecmlglaaDoor
open Go.ChangeShapes Go.WideShapes Go.ChangeAt Go.RowKit _root_.Nm
open Go Go.ChangeMaps

set_option maxHeartbeats 4000000 in
theorem naturalReads_walk (a : Option Addr) (n c A : Nat) (s : ByteArray) (w : World) (T : Tp w) (hA : IsN w a n c A) (hs : s.size ≤ 9223372036854775807) :
    Calls Tryd.prog 3 #[.slice a n c, .string s] w fun e w' => e = .returned (.bool true) ∧ w.grownBy w' none := by
  have hS := small1_one a n c w
  have hW : w.grownBy w none := grown_refl _ _
  by_cases h24 : n ≤ 24
  rotate_left
  · rw [decide_eq_false h24] at hS
    have HS := hid hS
    clear hS h24
    go_enter Tryd.func3, Tryd.ntmps3
    go_wp2_with fail
    refine HS.out.mono ?_
    rintro e w0 ⟨rfl, hg⟩
    replace hW := grown_trans hW hg; clear hg
    go_wp2_with fail
    refine (alive1 _).mono ?_
    rintro e w1 ⟨rfl, hg⟩
    go_wp2_with fail
    go_ret
    exact ⟨rfl, grown_trans hW hg⟩

  rw [decide_eq_true h24] at hS
  have HS := hid hS
  clear hS
  by_cases h11 : 1100 < s.size
  · have h11' : (1100 : Int) < (s.size : Int) := by omega
    go_enter Tryd.func3, Tryd.ntmps3
    go_wp2_with fail
    refine HS.out.mono ?_
    rintro e w0 ⟨rfl, hg⟩
    replace hW := grown_trans hW hg; clear hg
    go_wp2_with fail
    refine (alive1 _).mono ?_
    rintro e w1 ⟨rfl, hg⟩
    go_wp2_with fail
    go_ret
    exact ⟨rfl, grown_trans hW hg⟩

  have h11' : ¬ ((1100 : Int) < (s.size : Int)) := by omega
  go_enter Tryd.func3, Tryd.ntmps3
  go_wp2_with fail
  refine HS.out.mono ?_
  rintro e w0 ⟨rfl, hg⟩
  replace T := tp_keep T hg; replace hA := hA.keep hg; replace hW := grown_trans hW hg; clear hg
  go_wp2_with fail
  refine (natRead_any s _ rfl hs _).mono ?_
  rintro e w1 ⟨p1, n1, c1, rfl, h1, hn1, hg⟩
  replace T := tp_keep T hg; replace hA := hA.keep hg; replace hW := grown_trans hW hg; clear hg
  go_wp2_with fail
  refine (refRead_any s _ rfl hs _).mono ?_
  rintro e w2 ⟨p2, n2, c2, rfl, h2, hn2, hg⟩
  replace T := tp_keep T hg; replace hA := hA.keep hg; replace h1 := h1.keep hg; replace hW := grown_trans hW hg; clear hg
  generalize rdE s.data.toList = E at *
  go_wp2_with fail
  refine (natText_n hA (by omega) T).mono ?_
  rintro e w3 ⟨rfl, hg⟩
  replace T := tp_keep T hg; replace hA := hA.keep hg; replace h1 := h1.keep hg; replace h2 := h2.keep hg; replace hW := grown_trans hW hg; clear hg
  go_wp2_with fail
  refine (refText_n hA (by omega)).mono ?_
  rintro e w4 ⟨rfl, hg⟩
  replace T := tp_keep T hg; replace hA := hA.keep hg; replace h1 := h1.keep hg; replace h2 := h2.keep hg; replace hW := grown_trans hW hg; clear hg
  generalize Lib.decDigits A = D at *
  go_wp2_with fail
  refine (same_c h1 h2 rfl).mono ?_
  rintro e w5 ⟨rfl, hg⟩
  replace T := tp_keep T hg; replace hA := hA.keep hg; replace h1 := h1.keep hg; replace h2 := h2.keep hg; replace hW := grown_trans hW hg; clear hg
  go_wp2_with fail
  refine (alive1 _).mono ?_
  rintro e w1 ⟨rfl, hg⟩
  go_wp2_with fail
  go_ret
  exact ⟨rfl, grown_trans hW hg⟩

theorem naturalReads_door (os : Os) (args : Array Value) : laidMetH Tryd.prog [("math/bits.deBruijn32tab", Rows.laid_math_bits_deBruijn32tab), ("math/bits.deBruijn64tab", Rows.laid_math_bits_deBruijn64tab), ("internal/strconv.uint64pow10", Rows.laid_internal_strconv_uint64pow10), ("strconv.ErrRange", Rows.laid_strconv_ErrRange), ("strconv.ErrSyntax", Rows.laid_strconv_ErrSyntax)] ((World.doorLaid Tryd.prog 400 os).forCall (fun _ _ => 0) ⟨#[], args, []⟩).memory :=
  laidMetH_of_parts3 (fuel := 8) (laidMet_of_run' 8 (by kernel_rfl) (by kernel_rfl)) (by kernel_rfl) (by kernel_rfl)

set_option maxRecDepth 100000 in
theorem naturalReads_lifted (os : Os) (started : os.Started) (H : Type) (enc : TypeId × Value → H) :
    ReturnsInHanded {} Tryd.checked os 3 .any (fun w args => (Rows.naturalReadsSpec.pre enc Tryd.prog Tryd.f3 [] false w args ∧ laidMetH Tryd.prog [("math/bits.deBruijn32tab", Rows.laid_math_bits_deBruijn32tab), ("math/bits.deBruijn64tab", Rows.laid_math_bits_deBruijn64tab), ("internal/strconv.uint64pow10", Rows.laid_internal_strconv_uint64pow10), ("strconv.ErrRange", Rows.laid_strconv_ErrRange), ("strconv.ErrSyntax", Rows.laid_strconv_ErrSyntax)] w) ∧ sizedMet enc Tryd.prog Tryd.f3 (OpenSpec.ofChange Rows.naturalReadsSpec) false w args)
      (Rows.naturalReadsSpec.post enc Tryd.prog Tryd.f3 false true false false) := by
  refine returnsInHanded_of_change_and (C := Tryd.checked) (X := fun w _ => laidMetH Tryd.prog [("math/bits.deBruijn32tab", Rows.laid_math_bits_deBruijn32tab), ("math/bits.deBruijn64tab", Rows.laid_math_bits_deBruijn64tab), ("internal/strconv.uint64pow10", Rows.laid_internal_strconv_uint64pow10), ("strconv.ErrRange", Rows.laid_strconv_ErrRange), ("strconv.ErrSyntax", Rows.laid_strconv_ErrSyntax)] w) (fun _ _ _ hh h => h.of_heap hh) own1 started (by kernel_rfl) Tryd.func3
    (ChangeSpec.witness_shaped (enc := enc) (C := Tryd.checked) (os := os) (X := fun w _ => laidMetH Tryd.prog [("math/bits.deBruijn32tab", Rows.laid_math_bits_deBruijn32tab), ("math/bits.deBruijn64tab", Rows.laid_math_bits_deBruijn64tab), ("internal/strconv.uint64pow10", Rows.laid_internal_strconv_uint64pow10), ("strconv.ErrRange", Rows.laid_strconv_ErrRange), ("strconv.ErrSyntax", Rows.laid_strconv_ErrSyntax)] w) false (World.doorLaid Tryd.prog 400 os) #[.slice none 0 0, .string ⟨#[]⟩] 8 rfl (World.shaped_of_RefB (by kernel_rfl) (by kernel_rfl)) (by kernel_rfl) (by kernel_rfl) (by kernel_rfl) (naturalReads_door os _)) ?_
  intro W base args ds gs before hval0 hW _ _ hL _
  have hval : ∀ (j : Nat) t v, Tryd.f3.params[j]? = some t → args[j]? = some v → Value.okWide Tryd.prog W .any base t v := hval0
  have hW' := hW
  obtain ⟨p, q, hA0, hV, rfl, hfz, hnd⟩ := hW
  have hA : DataW.TrodAll enc Tryd.prog W 0 (fun _ => true) true Tryd.f3.params.toList args.toList ds p := hA0
  rw [Tryd.params3] at hA hval
  obtain ⟨v0, v1, d0, d1, p0, p1, rfl, rfl, rfl, h0, h1⟩ := trodAll_two hA
  obtain ⟨rfl, rfl⟩ := trodVars_none hV
  have hlt : ∀ x ∈ p0 ++ (p1), x.block < W.heap.size := fun x hx => hW'.lt x (by simpa using hx)
  obtain ⟨a, n, c, xs, rfl, hr0, hx0⟩ := open_nat (hval 0 23 v0 rfl rfl) h0
  obtain ⟨s1, rfl, rfl, rfl, ws1⟩ := open_string Tryd.underlying9 (hval 1 9 v1 rfl rfl) h1
  refine (naturalReads_walk a n c _ s1 W (tp_of_laid hL) (IsN.of hr0 hx0) (by unfold maxLen at ws1; omega)).mono fun e W' ⟨he, hg⟩ => ?_
  subst he
  have hB := grown_below hg
  exact ⟨_, rfl, _, _, _, [], _, [], hW', trodAll_mk1 (shut_bool Tryd.underlying4 true),
    trodAll_mk2 (Below.trod laidOut1 readNat rowNat h0 hB fun x hx => hlt x (by simp [hx])) (shut_string Tryd.underlying9 ws1), rfl, hB.frame _, fun h => by cases h⟩

theorem naturalReads_holds : Rows.NaturalReadsSaid :=
  OpenClaim.holds_of_wide 3 Tryd.f3 rfl rfl rfl rfl rfl rfl rfl ⟨rfl, rfl, rfl, rfl, rfl⟩ rfl rfl rfl rfl rfl (by kernel_rfl) Tryd.func3 (by kernel_rfl)
    (of_decide_eq_true (by kernel_rfl)) (by unfold Func.isWrapper; first | (rw [if_pos (by decide +kernel)]; kernel_rfl) | (rw [if_neg (by decide +kernel)]; exact ⟨rfl, rfl⟩))
    (fun os started H enc _ => naturalReads_lifted os started H enc)

theorem naturalReads_card : Rows.NaturalReadsCardSaid :=
  Claim7.holds_tied_plain_at .later [] [.data, .data, .data, .sentinel, .sentinel] true _ true
    naturalReads_holds (fun _ h => by cases h) (by kernel_rfl) (fun _ h => by cases h) naturalReads_row_tie rfl ⟨rfl, rfl⟩ (by kernel_rfl) rfl
    (fun f fn hf hfn => by
      obtain rfl : f = 3 := Option.some.inj ((show Tryd.prog.funcNamed "geoprover/geoproverlaw01.NaturalReads" = some 3 by kernel_rfl).symm.trans hf) |>.symm
      obtain rfl : fn = Tryd.f3 := (Option.some.inj (Tryd.func3.symm.trans hfn)).symm
      exact ⟨by kernel_rfl, fun j t ht => by
        rw [Tryd.params3] at ht
        have hm : t ∈ [23, 9] := by simpa using Array.mem_of_getElem? ht
        have hall : ([23, 9].all fun u => !Tryd.prog.wantsStandIn u) = true := by kernel_rfl
        exact (show Tryd.prog.wantsStandIn t = false by simpa using List.all_eq_true.1 hall t hm)⟩)
    (by kernel_rfl)

end Go.Proofs.YtkggoniecmlglaaDoor
