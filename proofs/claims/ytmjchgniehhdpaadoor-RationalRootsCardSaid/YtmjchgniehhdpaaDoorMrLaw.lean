/-
  LawRationalRoots, in one text.
-/
import Derived.Test.YtmjchgniehhdpaaDoorMrA
import Derived.Test.YtmjchgniehhdpaaDoorMrC
import Derived.Test.YtmjchgniehhdpaaDoorMrB

set_option linter.unusedVariables false
set_option linter.unusedSimpArgs false
namespace Go.Proofs.YtmjchgniehhdpaaDoor
open Go.ChangeShapes Go.WideShapes Go.ChangeAt Go.RowKit Nm
open Go

theorem small3_one (g : Bool) (a b : Option Addr) (n c m d : Nat) (w : World) (G : Nat) (hG : G = w.heap.size) :
    Calls Tryd.prog 15 #[.slice (some ⟨G, 0, none⟩) 1 1] (w.alloc (.cells #[.bool g, .slice a n c, .slice b m d] 30)) fun e w' =>
      e = .returned (.bool (decide (n ≤ 12 ∧ m ≤ 12))) ∧ w.grownBy w' none := by
  subst hG
  have := small3_any w.heap.size 1 [((a, n, c), (b, m, d))] (w.alloc (.cells #[.bool g, .slice a n c, .slice b m d] 30)) (by simp) (fun j hj => by
    match j, hj with
    | 0, _ => simp)
  refine this.mono fun e w' ⟨h1, h2⟩ => ⟨by simpa using h1, h2 ▸ World.grownBy_alloc w _ none⟩

set_option maxRecDepth 100000 in
set_option maxHeartbeats 8000000 in
theorem rationalRoots_walk (g : Bool) (a b : Option Addr) (n c m d A B : Nat) (w : World) (T : Tb w) (hA : IsZ w g a n c (sg g A)) (hB : IsN w b m d B) :
    Calls Tryd.prog 4 #[.agg #[.bool g, .slice a n c, .slice b m d]] w fun e w' => e = .returned (.bool true) ∧ w.grownBy w' none := by
  have hb1 := World.grownBy_alloc w (.cells #[.bool g, .slice a n c, .slice b m d] 30) none
  have hn1 := heap_alloc_new w (.cells #[.bool g, .slice a n c, .slice b m d] 30)
  have HS := small3_one g a b n c m d (w.alloc (.cells #[.bool g, .slice a n c, .slice b m d] 30)) (w.heap.size + 1) (by simp)
  have HT := hid T
  by_cases h12 : n ≤ 12 ∧ m ≤ 12
  rotate_left
  · rw [decide_eq_false h12] at HS
    replace HS := hid HS
    clear T
    go_enter Tryd.func4, Tryd.ntmps4
    go_wp2_with fail
    refine HS.out.mono ?_
    rintro e w0 ⟨rfl, hg⟩
    replace hg := grown_trans hb1 hg
    go_wp2_with fail
    refine (alive3 (HT.out.keep hg)).mono ?_
    rintro e w1 ⟨rfl, hg1⟩
    go_wp2_with fail
    go_ret
    exact ⟨rfl, grown_trans hg hg1⟩
  rw [decide_eq_true h12] at HS
  replace HS := hid HS
  obtain ⟨hn, hm⟩ := h12
  clear T
  generalize sg g A = Z at *
  go_enter Tryd.func4, Tryd.ntmps4
  go_wp2_with fail
  refine HS.out.mono ?_
  rintro e w0 ⟨rfl, hg⟩
  have hx := (hg.block w.heap.size (lt_of_block hn1) (by simp)).trans hn1
  obtain ⟨x0, x1, x2, _, _, _⟩ := ratbox_facts hx
  have hW := grown_trans hb1 hg
  replace hA := hA.keep hW
  replace hB := hB.keep hW
  clear hg hx hn1 hb1 HS
  go_wp2_with fail
  refine (ratSqrt_any (HT.out.keep hW) hA hB (by omega) (by omega)).mono ?_
  rintro e w1 ⟨g1, p1, n1, c1, q1, m1, d1, Z1, U1, ok1, rfl, h1, k1, s1, hg⟩
  have ha := World.grownBy_alloc w1 (.cells #[.bool g1, .slice p1 n1 c1, .slice q1 m1 d1] 30) none
  have hb := heap_alloc_new w1 (.cells #[.bool g1, .slice p1 n1 c1, .slice q1 m1 d1] 30)
  replace hg := grown_trans hg ha
  obtain ⟨y0, y1, y2, _, _, _⟩ := ratbox_facts hb
  replace h1 := h1.keep ha; replace k1 := k1.keep ha
  replace hA := hA.keep hg; replace hB := hB.keep hg; replace hW := grown_trans hW hg
  replace x0 := hg.cell x0 (by simp); replace x1 := hg.cell x1 (by simp); replace x2 := hg.cell x2 (by simp)
  have l1 := lt_of_block hb
  obtain ⟨h1a, h1b⟩ := h1
  replace h1b := hid h1b
  replace s1 := hid s1
  clear ha hb hg
  go_wp2_with fail
  generalize w1.alloc (.cells #[.bool g1, .slice p1 n1 c1, .slice q1 m1 d1] 30) = w2 at *
  generalize w1.heap.size = K1 at *
  refine (rSqrt3_any hA hB (by omega) (by omega)).mono ?_
  rintro e w3 ⟨g2, p2, n2, c2, q2, m2, d2, Z2, U2, ok2, rfl, h2, k2, s2, hg⟩
  obtain ⟨rfl, rfl, rfl⟩ := SqSpec.unique s1.out s2
  have ha := World.grownBy_alloc w3 (.cells #[.bool g2, .slice p2 n2 c2, .slice q2 m2 d2] 30) none
  have hb := heap_alloc_new w3 (.cells #[.bool g2, .slice p2 n2 c2, .slice q2 m2 d2] 30)
  replace hg := grown_trans hg ha
  obtain ⟨z0, z1, z2, _, _, _⟩ := ratbox_facts hb
  replace h2 := h2.keep ha; replace k2 := k2.keep ha
  have h1 := IsI.keep ⟨h1a, h1b.out⟩ hg
  replace k1 := k1.keep hg
  replace hA := hA.keep hg; replace hB := hB.keep hg; replace hW := grown_trans hW hg
  replace x0 := hg.cell x0 (by simp); replace x1 := hg.cell x1 (by simp); replace x2 := hg.cell x2 (by simp)
  replace y0 := hg.cell y0 (by simp); replace y1 := hg.cell y1 (by simp); replace y2 := hg.cell y2 (by simp)
  have l2 := lt_of_block hb
  clear ha hb hg s1 s2 h1a h1b
  go_wp2_with fail
  generalize w3.alloc (.cells #[.bool g2, .slice p2 n2 c2, .slice q2 m2 d2] 30) = w4 at *
  generalize w3.heap.size = K2 at *
  have hg := grown_drew w4 none
  replace x0 := hg.cell x0 (by simp); replace x1 := hg.cell x1 (by simp); replace x2 := hg.cell x2 (by simp); replace y0 := hg.cell y0 (by simp); replace y1 := hg.cell y1 (by simp); replace y2 := hg.cell y2 (by simp); replace z0 := hg.cell z0 (by simp); replace z1 := hg.cell z1 (by simp); replace z2 := hg.cell z2 (by simp)
  replace hA := hA.keep hg; replace h1 := h1.keep hg; replace h2 := h2.keep hg; replace hB := hB.keep hg; replace k1 := k1.keep hg; replace k2 := k2.keep hg
  replace hW := grown_trans hW hg
  clear hg
  cases ok1
  all_goals
    go_region_held3 (fun w' => w'.cell? ⟨w.heap.size, 0, none⟩ = some (.bool g) ∧ w'.cell? ⟨w.heap.size, 1, none⟩ = some (.slice a n c) ∧ w'.cell? ⟨w.heap.size, 2, none⟩ = some (.slice b m d) ∧ w'.cell? ⟨K1, 0, none⟩ = some (.bool g1) ∧ w'.cell? ⟨K1, 1, none⟩ = some (.slice p1 n1 c1) ∧ w'.cell? ⟨K1, 2, none⟩ = some (.slice q1 m1 d1) ∧ w'.cell? ⟨K2, 0, none⟩ = some (.bool g2) ∧ w'.cell? ⟨K2, 1, none⟩ = some (.slice p2 n2 c2) ∧ w'.cell? ⟨K2, 2, none⟩ = some (.slice q2 m2 d2))
      ((try go_split_ands) <;> (repeat' apply And.intro) <;> (repeat (first | (with_reducible assumption) | (with_reducible refine (grown_setCell _ _ _).cell ?_ (by simp; omega)) | (with_reducible refine (World.grownBy_alloc _ _ none).cell ?_ (by simp)) | (with_reducible refine (grown_drew _ none).cell ?_ (by simp)))))
      (first
        | (go_at_call 19; (with_reducible refine (ratFloor_any hA hB (by omega) (by omega)).mono ?_); rintro e w5 ⟨g5, p5, n5, c5, rfl, h5, hn5, hg⟩; replace x0 := hg.cell x0 (by simp); replace x1 := hg.cell x1 (by simp); replace x2 := hg.cell x2 (by simp); replace y0 := hg.cell y0 (by simp); replace y1 := hg.cell y1 (by simp); replace y2 := hg.cell y2 (by simp); replace z0 := hg.cell z0 (by simp); replace z1 := hg.cell z1 (by simp); replace z2 := hg.cell z2 (by simp); replace hA := hA.keep hg; replace h1 := h1.keep hg; replace h2 := h2.keep hg; replace hB := hB.keep hg; replace k1 := k1.keep hg; replace k2 := k2.keep hg; replace hW := grown_trans hW hg; clear hg)
        | (go_at_call 20; (with_reducible refine (rFloor3_any hA hB (by omega) (by omega)).mono ?_); rintro e w6 ⟨g6, p6, n6, c6, rfl, h6, hn6, hg⟩; replace x0 := hg.cell x0 (by simp); replace x1 := hg.cell x1 (by simp); replace x2 := hg.cell x2 (by simp); replace y0 := hg.cell y0 (by simp); replace y1 := hg.cell y1 (by simp); replace y2 := hg.cell y2 (by simp); replace z0 := hg.cell z0 (by simp); replace z1 := hg.cell z1 (by simp); replace z2 := hg.cell z2 (by simp); replace hA := hA.keep hg; replace h1 := h1.keep hg; replace h2 := h2.keep hg; replace hB := hB.keep hg; replace k1 := k1.keep hg; replace k2 := k2.keep hg; replace hW := grown_trans hW hg; replace h5 := h5.keep hg; clear hg)
        | (go_at_call 18; (with_reducible refine (same2_any h5 h6 rfl).mono ?_); rintro e w7 ⟨rfl, hg⟩; replace x0 := hg.cell x0 (by simp); replace x1 := hg.cell x1 (by simp); replace x2 := hg.cell x2 (by simp); replace y0 := hg.cell y0 (by simp); replace y1 := hg.cell y1 (by simp); replace y2 := hg.cell y2 (by simp); replace z0 := hg.cell z0 (by simp); replace z1 := hg.cell z1 (by simp); replace z2 := hg.cell z2 (by simp); replace hA := hA.keep hg; replace h1 := h1.keep hg; replace h2 := h2.keep hg; replace hB := hB.keep hg; replace k1 := k1.keep hg; replace k2 := k2.keep hg; replace hW := grown_trans hW hg; clear hg)
        | (go_at_call 10; (with_reducible refine (same3_any h1 k1 h2 k2 rfl rfl).mono ?_); rintro e w8 ⟨rfl, hg⟩; replace x0 := hg.cell x0 (by simp); replace x1 := hg.cell x1 (by simp); replace x2 := hg.cell x2 (by simp); replace y0 := hg.cell y0 (by simp); replace y1 := hg.cell y1 (by simp); replace y2 := hg.cell y2 (by simp); replace z0 := hg.cell z0 (by simp); replace z1 := hg.cell z1 (by simp); replace z2 := hg.cell z2 (by simp); replace hA := hA.keep hg; replace h1 := h1.keep hg; replace h2 := h2.keep hg; replace hB := hB.keep hg; replace k1 := k1.keep hg; replace k2 := k2.keep hg; replace hW := grown_trans hW hg; clear hg)
        | (go_at_call 7; (with_reducible refine (alive3 (HT.out.keep hW)).mono ?_); rintro e w9 ⟨rfl, hg⟩; replace x0 := hg.cell x0 (by simp); replace x1 := hg.cell x1 (by simp); replace x2 := hg.cell x2 (by simp); replace y0 := hg.cell y0 (by simp); replace y1 := hg.cell y1 (by simp); replace y2 := hg.cell y2 (by simp); replace z0 := hg.cell z0 (by simp); replace z1 := hg.cell z1 (by simp); replace z2 := hg.cell z2 (by simp); replace hA := hA.keep hg; replace h1 := h1.keep hg; replace h2 := h2.keep hg; replace hB := hB.keep hg; replace k1 := k1.keep hg; replace k2 := k2.keep hg; replace hW := grown_trans hW hg; clear hg))
    go_wp2_with fail
    go_ret
    exact ⟨rfl, hW⟩

theorem rationalRoots_door (os : Os) (args : Array Value) : laidMetH Tryd.prog [("math/bits.deBruijn64tab", Rows.laid_math_bits_deBruijn64tab)] ((World.doorLaid Tryd.prog 400 os).forCall (fun _ _ => 0) ⟨#[], args, []⟩).memory :=
  laidMetH_of_parts3 (fuel := 8) (laidMet_of_run' 8 (by kernel_rfl) (by kernel_rfl)) (by kernel_rfl) (by kernel_rfl)

set_option maxRecDepth 100000 in
theorem rationalRoots_lifted (os : Os) (started : os.Started) (H : Type) (enc : TypeId × Value → H) :
    ReturnsInHanded {} Tryd.checked os 4 .any (fun w args => (Rows.rationalRootsSpec.pre enc Tryd.prog Tryd.f4 [] false w args ∧ laidMetH Tryd.prog [("math/bits.deBruijn64tab", Rows.laid_math_bits_deBruijn64tab)] w) ∧ sizedMet enc Tryd.prog Tryd.f4 (OpenSpec.ofChange Rows.rationalRootsSpec) false w args)
      (Rows.rationalRootsSpec.post enc Tryd.prog Tryd.f4 false true false false) := by
  refine returnsInHanded_of_change_and (C := Tryd.checked) (X := fun w _ => laidMetH Tryd.prog [("math/bits.deBruijn64tab", Rows.laid_math_bits_deBruijn64tab)] w) (fun _ _ _ hh h => h.of_heap hh) own1 started (by kernel_rfl) Tryd.func4
    (ChangeSpec.witness_shaped (enc := enc) (C := Tryd.checked) (os := os) (X := fun w _ => laidMetH Tryd.prog [("math/bits.deBruijn64tab", Rows.laid_math_bits_deBruijn64tab)] w) false (World.doorLaid Tryd.prog 400 os) #[.agg #[.bool false, .slice none 0 0, .slice none 0 0]] 8 rfl (World.shaped_of_RefB (by kernel_rfl) (by kernel_rfl)) (by kernel_rfl) (by kernel_rfl) (by kernel_rfl) (rationalRoots_door os _)) ?_
  intro W base args ds gs before hval0 hW _ _ hL _
  have hval : ∀ (j : Nat) t v, Tryd.f4.params[j]? = some t → args[j]? = some v → Value.okWide Tryd.prog W .any base t v := hval0
  have hW' := hW
  obtain ⟨p, q, hA0, hV, rfl, hfz, hnd⟩ := hW
  have hA : DataW.TrodAll enc Tryd.prog W 0 (fun _ => true) true Tryd.f4.params.toList args.toList ds p := hA0
  rw [Tryd.params4] at hA hval
  obtain ⟨v0, d0, rfl, rfl, h0⟩ := trodAll_one hA
  obtain ⟨rfl, rfl⟩ := trodVars_none hV
  have hlt : ∀ x ∈ p, x.block < W.heap.size := fun x hx => hW'.lt x (by simpa using hx)
  obtain ⟨g0, a, n, c, xs, b, m, d, ys, rfl, hr0, hx0, hr1, hx1⟩ := open_Rat (hval 0 30 v0 rfl rfl) h0
  refine (rationalRoots_walk g0 a b n c m d _ _ W (tb_of_laid hL) (IsZ.of g0 hr0 hx0) (IsN.of hr1 hx1)).mono fun e W' ⟨he, hg⟩ => ?_
  subst he
  have hB := grown_below hg
  exact ⟨_, rfl, _, _, _, [], _, [], hW', trodAll_mk1 (shut_bool Tryd.underlying4 true),
    trodAll_mk1 (Below.trod laidOut1 readRat rowRat h0 hB fun x hx => hlt x (by simp [hx])), rfl, hB.frame _, fun h => by cases h⟩

theorem rationalRoots_holds : Rows.RationalRootsSaid :=
  OpenClaim.holds_of_wide 4 Tryd.f4 rfl rfl rfl rfl rfl rfl rfl ⟨rfl, rfl, rfl, rfl, rfl⟩ rfl rfl rfl rfl rfl (by kernel_rfl) Tryd.func4 (by kernel_rfl)
    (of_decide_eq_true (by kernel_rfl)) (by unfold Func.isWrapper; first | (rw [if_pos (by decide +kernel)]; kernel_rfl) | (rw [if_neg (by decide +kernel)]; exact ⟨rfl, rfl⟩))
    (fun os started H enc _ => rationalRoots_lifted os started H enc)

theorem rationalRoots_card : Rows.RationalRootsCardSaid :=
  Claim7.holds_tied_plain_at .later [] [.data] true _ false
    rationalRoots_holds (fun _ h => by cases h) (by kernel_rfl) (fun _ h => by cases h) rationalRoots_row_tie rfl ⟨rfl, rfl⟩ (by kernel_rfl) rfl
    (fun f fn hf hfn => by
      obtain rfl : f = 4 := Option.some.inj ((show Tryd.prog.funcNamed "geoprover/geoproverlaw03.RationalRoots" = some 4 by kernel_rfl).symm.trans hf) |>.symm
      obtain rfl : fn = Tryd.f4 := (Option.some.inj (Tryd.func4.symm.trans hfn)).symm
      exact ⟨by kernel_rfl, fun j t ht => by
        rw [Tryd.params4] at ht
        have hm : t ∈ [30] := by simpa using Array.mem_of_getElem? ht
        have hall : ([30].all fun u => !Tryd.prog.wantsStandIn u) = true := by kernel_rfl
        exact (show Tryd.prog.wantsStandIn t = false by simpa using List.all_eq_true.1 hall t hm)⟩)
    (by kernel_rfl)

end Go.Proofs.YtmjchgniehhdpaaDoor
