/-
  Whatever the arguments are, the Go function NaturalBack returns true and leaves them as they are. Condition: the tables of packages math/bits and internal/strconv, and the two errors of strconv, hold what the program's text lays (the card ties them).
-/
import Derived.Test.YtkggoniecmlglaaDoorNtext
import Derived.Test.YtkggoniecmlglaaDoorNread
import Derived.Test.YtkggoniecmlglaaDoorRoot
import Derived.Test.YtkggoniecmlglaaDoorShift
import Derived.Test.YtkggoniecmlglaaDoorDivN
import Derived.Test.YtkggoniecmlglaaDoorSmallB
import Derived.Test.YtkggoniecmlglaaDoorAliveA
import Derived.Test.YtkggoniecmlglaaDoorOpen
import Derived.Test.YtkggoniecmlglaaDoorTiedK
import Derived.ChangeMaps5
set_option linter.unusedVariables false
set_option linter.unusedSimpArgs false
namespace Go.Proofs.YtkggoniecmlglaaDoor
open Go.ChangeShapes Go.WideShapes Go.ChangeAt Go.RowKit _root_.Nm
open Go Go.ChangeMaps

theorem one_c (w : World) : IsC (w.alloc (.cells #[.int .u16 1] 35)) (some ⟨w.heap.size, 0, none⟩) 1 1 1 := by
  have e : dg 65536 1 = [1] := by rw [dg_step 1 (by omega)]; simp [dg_zero]
  unfold IsC
  rw [e]
  exact one_rd w _ _ _ 1 rfl

theorem dec_len {N n : Nat} (h : N < 65536 ^ n) (hn : n ≤ 100) : (Lib.decDigits N).length ≤ 1000 := by
  rcases Nat.eq_zero_or_pos N with h0 | h0
  · subst h0; rw [dec_one (by omega)]; simp
  · have := dd_limbs h
    rw [dd_pos h0] at this; omega
theorem dec_ne (N : Nat) : Lib.decDigits N ≠ [] := by
  obtain ⟨_, _, c, r, e, _⟩ := dec_spec N
  rw [e]; simp
theorem rdE_dec {N n : Nat} (h : N < 65536 ^ n) (hn : n ≤ 100) : rdE (Lib.decDigits N) = 0 := rdE_ok (dec_ne N) (dec_len h hn) (dec_numl N)
theorem rdV_dec {N n : Nat} (h : N < 65536 ^ n) (hn : n ≤ 100) : rdV (Lib.decDigits N) = N := by rw [rdV_ok (rdE_dec h hn), dec_num]

/-- reading a text back -/
theorem read_back {N n : Nat} (h : N < 65536 ^ n) (hn : n ≤ 100) (w : World) :
    Calls Tryd.prog 9 #[str (Lib.decDigits N)] w fun e w' => ∃ p k c, e = .returned (.tuple #[.slice p k c, .int .i64 0]) ∧ IsC w' p k c N ∧ k ≤ n ∧ w.grownBy w' none :=
  (natRead_any ⟨(Lib.decDigits N).toArray⟩ _ rfl (by have := dec_len h hn; rw [Lib.size_eq]; show (Lib.decDigits N).length ≤ _; omega) w).mono fun e w' ⟨p, k, c, he, hC, hk, hg⟩ => by
    rw [show (⟨(Lib.decDigits N).toArray⟩ : ByteArray).data.toList = Lib.decDigits N from rfl, rdV_dec h hn] at hC
    rw [show (⟨(Lib.decDigits N).toArray⟩ : ByteArray).data.toList = Lib.decDigits N from rfl, rdE_dec h hn] at he
    exact ⟨p, k, c, he, hC, hC.len_le h, hg⟩

set_option maxHeartbeats 4000000 in
theorem naturalBack_walk (a : Option Addr) (n c A : Nat) (z : Int) (w : World) (T : Tp w) (hA : IsN w a n c A) (hz0 : -9223372036854775808 ≤ z) (hz1 : z ≤ 9223372036854775807) :
    Calls Tryd.prog 4 #[.slice a n c, .int .i64 z] w fun e w' => e = .returned (.bool true) ∧ w.grownBy w' none := by
  have hS := small1_one a n c w
  have hW : w.grownBy w none := grown_refl _ _
  by_cases h24 : n ≤ 24
  rotate_left
  · rw [decide_eq_false h24] at hS
    have HS := hid hS
    clear hS h24
    go_enter Tryd.func4, Tryd.ntmps4
    go_wp2_with fail
    refine HS.out.mono ?_
    rintro e w0 ⟨rfl, hg⟩
    replace hW := grown_trans hW hg; clear hg
    go_wp2_with fail
    refine (alive1 _).mono ?_
    rintro e w1 ⟨rfl, hg⟩
    go_wp2_with fail
    go_ret
    exact ⟨rfl, grown_trans hW hg⟩

  rw [decide_eq_true h24] at hS
  have HS := hid hS
  clear hS
  by_cases h11 : z < 0
  · go_enter Tryd.func4, Tryd.ntmps4
    go_wp2_with fail
    refine HS.out.mono ?_
    rintro e w0 ⟨rfl, hg⟩
    replace hW := grown_trans hW hg; clear hg
    go_wp2_with fail
    refine (alive1 _).mono ?_
    rintro e w1 ⟨rfl, hg⟩
    go_wp2_with fail
    go_ret
    exact ⟨rfl, grown_trans hW hg⟩
  by_cases h12 : 400 < z
  · go_enter Tryd.func4, Tryd.ntmps4
    go_wp2_with fail
    refine HS.out.mono ?_
    rintro e w0 ⟨rfl, hg⟩
    replace hW := grown_trans hW hg; clear hg
    go_wp2_with fail
    refine (alive1 _).mono ?_
    rintro e w1 ⟨rfl, hg⟩
    go_wp2_with fail
    go_ret
    exact ⟨rfl, grown_trans hW hg⟩
  obtain ⟨k, rfl⟩ : ∃ k : Nat, z = k := ⟨z.toNat, by omega⟩
  have hk : k ≤ 400 := by omega
  have hA65 := hA.lt
  have H65 := hid (Nat.lt_of_lt_of_le hA65 (Nat.pow_le_pow_right (n := 65536) (by omega) h24))
  clear hA65
  go_enter Tryd.func4, Tryd.ntmps4
  go_wp2_with fail
  refine HS.out.mono ?_
  rintro e w0 ⟨rfl, hg⟩
  replace T := tp_keep T hg; replace hA := hA.keep hg; replace hW := grown_trans hW hg; clear hg
  go_wp2_with fail
  refine (natText_n hA (by omega) T).mono ?_
  rintro e w1 ⟨rfl, hg⟩
  replace T := tp_keep T hg; replace hA := hA.keep hg; replace hW := grown_trans hW hg; clear hg
  go_wp2_with fail
  refine (read_back H65.out (by omega) _).mono ?_
  rintro e w2 ⟨p2, n2, c2, rfl, hM, hn2, hg⟩
  replace T := tp_keep T hg; replace hA := hA.keep hg; replace hW := grown_trans hW hg; clear hg
  go_wp2_with fail
  refine (natSqrt_n hA (by omega)).mono ?_
  rintro e w3 ⟨R, p3, n3, c3, p4, n4, c4, rfl, hr1, hr2, hR, hQ, hn3, hn4, hg⟩
  replace T := tp_keep T hg; replace hA := hA.keep hg; replace hM := hM.keep hg; replace hW := grown_trans hW hg; clear hg
  have HR := hid (And.intro hr1 hr2)
  clear hr1 hr2
  have hg1 := World.grownBy_alloc w3 (.cells #[.int .u16 1] 35) none
  have hone := one_c w3
  replace T := tp_keep T hg1; replace hA := hA.keep hg1; replace hM := hM.keep hg1; replace hR := hR.keep hg1; replace hQ := hQ.keep hg1; replace hW := grown_trans hW hg1; clear hg1
  go_wp2_with fail
  refine (natAdd_n hR.isN hone.isN (by omega) (by omega)).mono ?_
  rintro e w4 ⟨p5, n5, c5, rfl, hX, hn5, hg⟩
  replace T := tp_keep T hg; replace hA := hA.keep hg; replace hM := hM.keep hg; replace hR := hR.keep hg; replace hQ := hQ.keep hg; replace hW := grown_trans hW hg; clear hg
  go_wp2_with fail
  refine (natNorm_n hA (by omega)).mono ?_
  rintro e w5 ⟨p6, n6, c6, rfl, hN, hn6, hg⟩
  replace T := tp_keep T hg; replace hA := hA.keep hg; replace hM := hM.keep hg; replace hR := hR.keep hg; replace hQ := hQ.keep hg; replace hX := hX.keep hg; replace hW := grown_trans hW hg; clear hg
  go_wp2_with fail
  refine (same_c hM hN rfl).mono ?_
  rintro e w6 ⟨rfl, hg⟩
  replace T := tp_keep T hg; replace hA := hA.keep hg; replace hM := hM.keep hg; replace hR := hR.keep hg; replace hQ := hQ.keep hg; replace hX := hX.keep hg; replace hW := grown_trans hW hg; clear hg
  go_wp2_with fail
  refine (natMul_n hR.isN hR.isN (by omega) (by omega)).mono ?_
  rintro e w7 ⟨p7, n7, c7, rfl, hP, hn7, hg⟩
  replace T := tp_keep T hg; replace hA := hA.keep hg; replace hM := hM.keep hg; replace hR := hR.keep hg; replace hQ := hQ.keep hg; replace hX := hX.keep hg; replace hW := grown_trans hW hg; clear hg
  go_wp2_with fail
  refine (natAdd_n hP.isN hQ.isN (by omega) (by omega)).mono ?_
  rintro e w8 ⟨p8, n8, c8, rfl, hS8, hn8, hg⟩
  replace T := tp_keep T hg; replace hA := hA.keep hg; replace hM := hM.keep hg; replace hX := hX.keep hg; replace hW := grown_trans hW hg; clear hg
  go_wp2_with fail
  refine (same_c hS8 hM (by have := HR.out.1; omega)).mono ?_
  rintro e w9 ⟨rfl, hg⟩
  replace T := tp_keep T hg; replace hA := hA.keep hg; replace hM := hM.keep hg; replace hX := hX.keep hg; replace hW := grown_trans hW hg; clear hg
  go_wp2_with fail
  refine (natMul_n hX.isN hX.isN (by omega) (by omega)).mono ?_
  rintro e w10 ⟨p9, n9, c9, rfl, hY, hn9, hg⟩
  replace T := tp_keep T hg; replace hA := hA.keep hg; replace hM := hM.keep hg; replace hW := grown_trans hW hg; clear hg
  go_wp2_with fail
  refine (natCmp_n hY.isN hM.isN).mono ?_
  rw [cmpI_gt (by have := HR.out.2; omega)]
  rintro e w11 ⟨rfl, hg⟩
  replace T := tp_keep T hg; replace hA := hA.keep hg; replace hM := hM.keep hg; replace hW := grown_trans hW hg; clear hg
  go_wp2_with fail
  refine (natShift_up k hA (by omega) (by omega)).mono ?_
  rintro e w12 ⟨p10, n10, c10, rfl, hU, hn10, hg⟩
  replace T := tp_keep T hg; replace hA := hA.keep hg; replace hM := hM.keep hg; replace hW := grown_trans hW hg; clear hg
  have hdown : Calls Tryd.prog 19 #[.slice p10 n10 c10, .int .i64 (-(k : Int))] w12 fun e w' => ∃ p' n' c', e = .returned (.slice p' n' c') ∧ IsC w' p' n' c' A ∧ w12.grownBy w' none := by
    rcases Nat.eq_zero_or_pos k with h0 | h0
    · subst h0
      exact (natShift_up 0 hU.isN (by omega) (by omega)).mono fun e w' ⟨p', n', c', he, hC, _, hg⟩ => ⟨p', n', c', he, hC.congr (by simp), hg⟩
    · exact (natShift_down k _ rfl hU.isN (by omega) h0 (by omega)).mono fun e w' ⟨p', n', c', he, hC, _, hg⟩ => ⟨p', n', c', he, hC.congr (Nat.mul_div_cancel _ (Nat.pow_pos (by omega))), hg⟩
  have HDN := hid hdown
  clear hdown
  go_wp2_with fail
  refine HDN.out.mono ?_
  rintro e w13 ⟨p11, n11, c11, rfl, hZ, hg⟩
  replace T := tp_keep T hg; replace hA := hA.keep hg; replace hM := hM.keep hg; replace hW := grown_trans hW hg; clear hg
  go_wp2_with fail
  refine (same_c hZ hM rfl).mono ?_
  rintro e w14 ⟨rfl, hg⟩
  replace T := tp_keep T hg; replace hA := hA.keep hg; replace hM := hM.keep hg; replace hW := grown_trans hW hg; clear hg
  go_wp2_with fail
  refine (alive1 _).mono ?_
  rintro e w1 ⟨rfl, hg⟩
  go_wp2_with fail
  go_ret
  exact ⟨rfl, grown_trans hW hg⟩


theorem naturalBack_door (os : Os) (args : Array Value) : laidMetH Tryd.prog [("math/bits.deBruijn32tab", Rows.laid_math_bits_deBruijn32tab), ("math/bits.deBruijn64tab", Rows.laid_math_bits_deBruijn64tab), ("internal/strconv.uint64pow10", Rows.laid_internal_strconv_uint64pow10), ("strconv.ErrRange", Rows.laid_strconv_ErrRange), ("strconv.ErrSyntax", Rows.laid_strconv_ErrSyntax)] ((World.doorLaid Tryd.prog 400 os).forCall (fun _ _ => 0) ⟨#[], args, []⟩).memory :=
  laidMetH_of_parts3 (fuel := 8) (laidMet_of_run' 8 (by kernel_rfl) (by kernel_rfl)) (by kernel_rfl) (by kernel_rfl)

set_option maxRecDepth 100000 in
theorem naturalBack_lifted (os : Os) (started : os.Started) (H : Type) (enc : TypeId × Value → H) :
    ReturnsInHanded {} Tryd.checked os 4 .any (fun w args => (Rows.naturalBackSpec.pre enc Tryd.prog Tryd.f4 [] false w args ∧ laidMetH Tryd.prog [("math/bits.deBruijn32tab", Rows.laid_math_bits_deBruijn32tab), ("math/bits.deBruijn64tab", Rows.laid_math_bits_deBruijn64tab), ("internal/strconv.uint64pow10", Rows.laid_internal_strconv_uint64pow10), ("strconv.ErrRange", Rows.laid_strconv_ErrRange), ("strconv.ErrSyntax", Rows.laid_strconv_ErrSyntax)] w) ∧ sizedMet enc Tryd.prog Tryd.f4 (OpenSpec.ofChange Rows.naturalBackSpec) false w args)
      (Rows.naturalBackSpec.post enc Tryd.prog Tryd.f4 false true false false) := by
  refine returnsInHanded_of_change_and (C := Tryd.checked) (X := fun w _ => laidMetH Tryd.prog [("math/bits.deBruijn32tab", Rows.laid_math_bits_deBruijn32tab), ("math/bits.deBruijn64tab", Rows.laid_math_bits_deBruijn64tab), ("internal/strconv.uint64pow10", Rows.laid_internal_strconv_uint64pow10), ("strconv.ErrRange", Rows.laid_strconv_ErrRange), ("strconv.ErrSyntax", Rows.laid_strconv_ErrSyntax)] w) (fun _ _ _ hh h => h.of_heap hh) own1 started (by kernel_rfl) Tryd.func4
    (ChangeSpec.witness_shaped (enc := enc) (C := Tryd.checked) (os := os) (X := fun w _ => laidMetH Tryd.prog [("math/bits.deBruijn32tab", Rows.laid_math_bits_deBruijn32tab), ("math/bits.deBruijn64tab", Rows.laid_math_bits_deBruijn64tab), ("internal/strconv.uint64pow10", Rows.laid_internal_strconv_uint64pow10), ("strconv.ErrRange", Rows.laid_strconv_ErrRange), ("strconv.ErrSyntax", Rows.laid_strconv_ErrSyntax)] w) false (World.doorLaid Tryd.prog 400 os) #[.slice none 0 0, .int .i64 0] 8 rfl (World.shaped_of_RefB (by kernel_rfl) (by kernel_rfl)) (by kernel_rfl) (by kernel_rfl) (by kernel_rfl) (naturalBack_door os _)) ?_
  intro W base args ds gs before hval0 hW _ _ hL _
  have hval : ∀ (j : Nat) t v, Tryd.f4.params[j]? = some t → args[j]? = some v → Value.okWide Tryd.prog W .any base t v := hval0
  have hW' := hW
  obtain ⟨p, q, hA0, hV, rfl, hfz, hnd⟩ := hW
  have hA : DataW.TrodAll enc Tryd.prog W 0 (fun _ => true) true Tryd.f4.params.toList args.toList ds p := hA0
  rw [Tryd.params4] at hA hval
  obtain ⟨v0, v1, d0, d1, p0, p1, rfl, rfl, rfl, h0, h1⟩ := trodAll_two hA
  obtain ⟨rfl, rfl⟩ := trodVars_none hV
  have hlt : ∀ x ∈ p0 ++ (p1), x.block < W.heap.size := fun x hx => hW'.lt x (by simpa using hx)
  obtain ⟨a, n, c, xs, rfl, hr0, hx0⟩ := open_nat (hval 0 23 v0 rfl rfl) h0
  obtain ⟨z1, rfl, rfl, rfl, wz1⟩ := open_int Tryd.underlying3 (hval 1 3 v1 rfl rfl) h1
  refine (naturalBack_walk a n c _ z1 W (tp_of_laid hL) (IsN.of hr0 hx0) (bounds_i64 wz1).1 (bounds_i64 wz1).2).mono fun e W' ⟨he, hg⟩ => ?_
  subst he
  have hB := grown_below hg
  exact ⟨_, rfl, _, _, _, [], _, [], hW', trodAll_mk1 (shut_bool Tryd.underlying4 true),
    trodAll_mk2 (Below.trod laidOut1 readNat rowNat h0 hB fun x hx => hlt x (by simp [hx])) (shut_int Tryd.underlying3 wz1), rfl, hB.frame _, fun h => by cases h⟩

theorem naturalBack_holds : Rows.NaturalBackSaid :=
  OpenClaim.holds_of_wide 4 Tryd.f4 rfl rfl rfl rfl rfl rfl rfl ⟨rfl, rfl, rfl, rfl, rfl⟩ rfl rfl rfl rfl rfl (by kernel_rfl) Tryd.func4 (by kernel_rfl)
    (of_decide_eq_true (by kernel_rfl)) (by unfold Func.isWrapper; first | (rw [if_pos (by decide +kernel)]; kernel_rfl) | (rw [if_neg (by decide +kernel)]; exact ⟨rfl, rfl⟩))
    (fun os started H enc _ => naturalBack_lifted os started H enc)

theorem naturalBack_card : Rows.NaturalBackCardSaid :=
  Claim7.holds_tied_plain_at .later [] [.data, .data, .data, .sentinel, .sentinel] true _ true
    naturalBack_holds (fun _ h => by cases h) (by kernel_rfl) (fun _ h => by cases h) naturalBack_row_tie rfl ⟨rfl, rfl⟩ (by kernel_rfl) rfl
    (fun f fn hf hfn => by
      obtain rfl : f = 4 := Option.some.inj ((show Tryd.prog.funcNamed "geoprover/geoproverlaw01.NaturalBack" = some 4 by kernel_rfl).symm.trans hf) |>.symm
      obtain rfl : fn = Tryd.f4 := (Option.some.inj (Tryd.func4.symm.trans hfn)).symm
      exact ⟨by kernel_rfl, fun j t ht => by
        rw [Tryd.params4] at ht
        have hm : t ∈ [23, 3] := by simpa using Array.mem_of_getElem? ht
        have hall : ([23, 3].all fun u => !Tryd.prog.wantsStandIn u) = true := by kernel_rfl
        exact (show Tryd.prog.wantsStandIn t = false by simpa using List.all_eq_true.1 hall t hm)⟩)
    (by kernel_rfl)

end Go.Proofs.YtkggoniecmlglaaDoor
