/-
  Whatever the arguments are, the Go function IntegerReads returns true and leaves them as they are. Condition: the tables of packages math/bits and internal/strconv, and the two errors of strconv, hold what the program's text lays (the card ties them).
-/
import Derived.Test.YtkggoniecmlglaaDoorMrT
import Derived.Test.YtkggoniecmlglaaDoorMrI
import Derived.Test.YtkggoniecmlglaaDoorTiedK
import Derived.ChangeMaps5
import Derived.Deep.RegionHeld3
import Derived.Deep.DeepCutAuto

set_option linter.unusedVariables false
set_option linter.unusedSimpArgs false
namespace Go.Proofs.YtkggoniecmlglaaDoor
open Go.ChangeShapes Go.WideShapes Go.ChangeAt Go.RowKit _root_.Nm
open Go Go.ChangeMaps

theorem small2_one (ga : Bool) (a : Option Addr) (n c : Nat) (w : World) (G : Nat) (hG : G = w.heap.size) :
    Calls Tryd.prog 20 #[.slice (some ⟨G, 0, none⟩) 1 1] (w.alloc (.cells #[.bool ga, .slice a n c] 41)) fun e w' =>
      e = .returned (.bool (decide (n ≤ 24))) ∧ w.grownBy w' none := by
  subst hG
  have := small2_any w.heap.size 1 [(a, n, c)] (w.alloc (.cells #[.bool ga, .slice a n c] 41)) (by simp) (fun j hj => by
    match j, hj with
    | 0, _ => simp)
  refine this.mono fun e w' ⟨h1, h2⟩ => ⟨by simpa using h1, h2 ▸ World.grownBy_alloc w _ none⟩
theorem ibox_facts {w : World} {G : Nat} {x : Bool} {y : Option Addr} {a b : Nat} {T : TypeId} (hb : w.heap[G]? = some (.cells #[.bool x, .slice y a b] T (0, 0))) :
    w.cell? ⟨G, 0, none⟩ = some (.bool x) ∧ w.cell? ⟨G, 1, none⟩ = some (.slice y a b) ∧ w.frozen? ⟨G, 0, none⟩ = false ∧ w.frozen? ⟨G, 1, none⟩ = false := by
  have k0 := cell_of_row w G 0 _ _ _ hb
  have k1 := cell_of_row w G 1 _ _ _ hb
  simp at k0 k1
  exact ⟨k0, k1, frozen_of_row w G 0 _ _ hb, frozen_of_row w G 1 _ _ hb⟩

set_option maxRecDepth 100000 in
set_option maxHeartbeats 16000000 in
theorem integerReads_walk (ga : Bool) (a : Option Addr) (n c : Nat) (A : Int) (s : ByteArray) (w : World) (T : Tp w) (hA : IsZ w ga a n c A) (hs : s.size ≤ 9223372036854775807) :
    Calls Tryd.prog 5 #[.agg #[.bool ga, .slice a n c], .string s] w fun e w' => e = .returned (.bool true) ∧ w.grownBy w' none := by
  have hW3 := World.grownBy_alloc w (.cells #[.bool ga, .slice a n c] 41) none
  have HS := hid (small2_one ga a n c (w.alloc (.cells #[.bool ga, .slice a n c] 41)) (w.heap.size + 1) (by simp))
  by_cases h24 : n ≤ 24
  rotate_left
  · rw [decide_eq_false h24] at HS
    go_enter Tryd.func5, Tryd.ntmps5
    go_wp2_with fail
    refine HS.out.mono ?_
    rintro e w0 ⟨rfl, hg⟩
    replace hW := grown_trans hW3 hg
    go_wp2_with fail
    refine (alive2 _).mono ?_
    rintro e w1 ⟨rfl, hg⟩
    go_wp2_with fail
    go_ret
    exact ⟨rfl, grown_trans hW hg⟩
  rw [decide_eq_true h24] at HS
  by_cases h11 : 1100 < s.size
  · have h11' : (1100 : Int) < (s.size : Int) := by omega
    go_enter Tryd.func5, Tryd.ntmps5
    go_wp2_with fail
    refine HS.out.mono ?_
    rintro e w0 ⟨rfl, hg⟩
    replace hW := grown_trans hW3 hg
    go_wp2_with fail
    refine (alive2 _).mono ?_
    rintro e w1 ⟨rfl, hg⟩
    go_wp2_with fail
    go_ret
    exact ⟨rfl, grown_trans hW hg⟩
  have h11' : ¬ ((1100 : Int) < (s.size : Int)) := by omega
  go_enter Tryd.func5, Tryd.ntmps5
  go_wp2_with fail
  refine HS.out.mono ?_
  rintro e w0 ⟨rfl, hg⟩
  have x0 : w0.cell? ⟨w.heap.size, 0, none⟩ = some (.bool ga) := hg.cell (by simp [go_sem, World.cell?_alloc_past]) (by simp)
  have x1 : w0.cell? ⟨w.heap.size, 1, none⟩ = some (.slice a n c) := hg.cell (by simp [go_sem, World.cell?_alloc_past]) (by simp)
  replace hg := grown_trans hW3 hg
  replace hA := hA.keep hg; replace T := tp_keep T hg
  have hW := hg
  clear hg HS hW3
  go_wp2_with fail
  refine (intRead_any s _ rfl hs _).mono ?_
  rintro e v1 ⟨g1, p1, n1, c1, rfl, h1, hn1, hg⟩
  replace T := tp_keep T hg; replace hA := hA.keep hg; replace x0 := hg.cell x0 (by simp); replace x1 := hg.cell x1 (by simp); replace hW := grown_trans hW hg; clear hg
  have hg := World.grownBy_alloc v1 (.cells #[.bool g1, .slice p1 n1 c1] 41) none
  have hb := heap_alloc_new v1 (.cells #[.bool g1, .slice p1 n1 c1] 41)
  replace T := tp_keep T hg; replace hA := hA.keep hg; replace h1 := h1.keep hg; replace x0 := hg.cell x0 (by simp); replace x1 := hg.cell x1 (by simp); replace hW := grown_trans hW hg; clear hg
  obtain ⟨y0, y1, yf0, yf1⟩ := ibox_facts hb
  clear hb
  go_wp2_with fail
  generalize v1.alloc (.cells #[.bool g1, .slice p1 n1 c1] 41) = uy at *
  generalize v1.heap.size = Ky at *
  refine (rRead_any s _ rfl hs _).mono ?_
  rintro e v2 ⟨g2, p2, n2, c2, rfl, h2, hn2, hg⟩
  replace T := tp_keep T hg; replace hA := hA.keep hg; replace h1 := h1.keep hg; replace x0 := hg.cell x0 (by simp); replace x1 := hg.cell x1 (by simp); replace y0 := hg.cell y0 (by simp); replace y1 := hg.cell y1 (by simp); replace hW := grown_trans hW hg; clear hg
  have hg := World.grownBy_alloc v2 (.cells #[.bool g2, .slice p2 n2 c2] 41) none
  have hb := heap_alloc_new v2 (.cells #[.bool g2, .slice p2 n2 c2] 41)
  replace T := tp_keep T hg; replace hA := hA.keep hg; replace h1 := h1.keep hg; replace h2 := h2.keep hg; replace x0 := hg.cell x0 (by simp); replace x1 := hg.cell x1 (by simp); replace y0 := hg.cell y0 (by simp); replace y1 := hg.cell y1 (by simp); replace hW := grown_trans hW hg; clear hg
  obtain ⟨z0, z1, zf0, zf1⟩ := ibox_facts hb
  clear hb
  generalize riE s.data.toList = E at *
  go_wp2_with fail
  generalize v2.alloc (.cells #[.bool g2, .slice p2 n2 c2] 41) = uz at *
  generalize v2.heap.size = Kz at *
  have hg := grown_drew uz none
  replace T := tp_keep T hg; replace hA := hA.keep hg; replace h1 := h1.keep hg; replace h2 := h2.keep hg; replace x0 := hg.cell x0 (by simp); replace x1 := hg.cell x1 (by simp); replace y0 := hg.cell y0 (by simp); replace y1 := hg.cell y1 (by simp); replace z0 := hg.cell z0 (by simp); replace z1 := hg.cell z1 (by simp); replace hW := grown_trans hW hg; clear hg
  go_region_held3 (fun w' => w'.cell? ⟨w.heap.size, 0, none⟩ = some (.bool ga) ∧ w'.cell? ⟨w.heap.size, 1, none⟩ = some (.slice a n c) ∧ w'.cell? ⟨Ky, 0, none⟩ = some (.bool g1) ∧ w'.cell? ⟨Ky, 1, none⟩ = some (.slice p1 n1 c1) ∧ w'.cell? ⟨Kz, 0, none⟩ = some (.bool g2) ∧ w'.cell? ⟨Kz, 1, none⟩ = some (.slice p2 n2 c2)) ((try go_split_ands) <;> (repeat' apply And.intro) <;> (repeat (first | (with_reducible assumption) | (with_reducible refine (grown_setCell _ _ _).cell ?_ (by simp; omega)) | (with_reducible refine (World.grownBy_alloc _ _ none).cell ?_ (by simp)) | (with_reducible refine (grown_drew _ none).cell ?_ (by simp)))))
    (first
      | (go_at_call 24; (with_reducible refine (intText_n hA (by omega) T).mono ?_); rintro e v3 ⟨rfl, hg⟩; replace T := tp_keep T hg; replace hA := hA.keep hg; replace h1 := h1.keep hg; replace h2 := h2.keep hg; replace x0 := hg.cell x0 (by simp); replace x1 := hg.cell x1 (by simp); replace y0 := hg.cell y0 (by simp); replace y1 := hg.cell y1 (by simp); replace z0 := hg.cell z0 (by simp); replace z1 := hg.cell z1 (by simp); replace hW := grown_trans hW hg; clear hg)
      | (go_at_call 25; (with_reducible refine (rText_n hA (by omega)).mono ?_); rintro e v4 ⟨rfl, hg⟩; replace T := tp_keep T hg; replace hA := hA.keep hg; replace h1 := h1.keep hg; replace h2 := h2.keep hg; replace x0 := hg.cell x0 (by simp); replace x1 := hg.cell x1 (by simp); replace y0 := hg.cell y0 (by simp); replace y1 := hg.cell y1 (by simp); replace z0 := hg.cell z0 (by simp); replace z1 := hg.cell z1 (by simp); replace hW := grown_trans hW hg; clear hg)
      | (go_at_call 26; (with_reducible refine (same2_any h1 h2 rfl).mono ?_); rintro e v5 ⟨rfl, hg⟩; replace T := tp_keep T hg; replace hA := hA.keep hg; replace h1 := h1.keep hg; replace h2 := h2.keep hg; replace x0 := hg.cell x0 (by simp); replace x1 := hg.cell x1 (by simp); replace y0 := hg.cell y0 (by simp); replace y1 := hg.cell y1 (by simp); replace z0 := hg.cell z0 (by simp); replace z1 := hg.cell z1 (by simp); replace hW := grown_trans hW hg; clear hg)
      | (go_at_call 21; (with_reducible refine (alive2 _).mono ?_); rintro e v6 ⟨rfl, hg⟩; replace T := tp_keep T hg; replace hA := hA.keep hg; replace h1 := h1.keep hg; replace h2 := h2.keep hg; replace x0 := hg.cell x0 (by simp); replace x1 := hg.cell x1 (by simp); replace y0 := hg.cell y0 (by simp); replace y1 := hg.cell y1 (by simp); replace z0 := hg.cell z0 (by simp); replace z1 := hg.cell z1 (by simp); replace hW := grown_trans hW hg; clear hg))
  go_wp2_with fail
  go_ret
  exact ⟨rfl, hW⟩

theorem integerReads_door (os : Os) (args : Array Value) : laidMetH Tryd.prog [("math/bits.deBruijn32tab", Rows.laid_math_bits_deBruijn32tab), ("math/bits.deBruijn64tab", Rows.laid_math_bits_deBruijn64tab), ("internal/strconv.uint64pow10", Rows.laid_internal_strconv_uint64pow10), ("strconv.ErrRange", Rows.laid_strconv_ErrRange), ("strconv.ErrSyntax", Rows.laid_strconv_ErrSyntax)] ((World.doorLaid Tryd.prog 400 os).forCall (fun _ _ => 0) ⟨#[], args, []⟩).memory :=
  laidMetH_of_parts3 (fuel := 8) (laidMet_of_run' 8 (by kernel_rfl) (by kernel_rfl)) (by kernel_rfl) (by kernel_rfl)

set_option maxRecDepth 100000 in
theorem integerReads_lifted (os : Os) (started : os.Started) (H : Type) (enc : TypeId × Value → H) :
    ReturnsInHanded {} Tryd.checked os 5 .any (fun w args => (Rows.integerReadsSpec.pre enc Tryd.prog Tryd.f5 [] false w args ∧ laidMetH Tryd.prog [("math/bits.deBruijn32tab", Rows.laid_math_bits_deBruijn32tab), ("math/bits.deBruijn64tab", Rows.laid_math_bits_deBruijn64tab), ("internal/strconv.uint64pow10", Rows.laid_internal_strconv_uint64pow10), ("strconv.ErrRange", Rows.laid_strconv_ErrRange), ("strconv.ErrSyntax", Rows.laid_strconv_ErrSyntax)] w) ∧ sizedMet enc Tryd.prog Tryd.f5 (OpenSpec.ofChange Rows.integerReadsSpec) false w args)
      (Rows.integerReadsSpec.post enc Tryd.prog Tryd.f5 false true false false) := by
  refine returnsInHanded_of_change_and (C := Tryd.checked) (X := fun w _ => laidMetH Tryd.prog [("math/bits.deBruijn32tab", Rows.laid_math_bits_deBruijn32tab), ("math/bits.deBruijn64tab", Rows.laid_math_bits_deBruijn64tab), ("internal/strconv.uint64pow10", Rows.laid_internal_strconv_uint64pow10), ("strconv.ErrRange", Rows.laid_strconv_ErrRange), ("strconv.ErrSyntax", Rows.laid_strconv_ErrSyntax)] w) (fun _ _ _ hh h => h.of_heap hh) own1 started (by kernel_rfl) Tryd.func5
    (ChangeSpec.witness_shaped (enc := enc) (C := Tryd.checked) (os := os) (X := fun w _ => laidMetH Tryd.prog [("math/bits.deBruijn32tab", Rows.laid_math_bits_deBruijn32tab), ("math/bits.deBruijn64tab", Rows.laid_math_bits_deBruijn64tab), ("internal/strconv.uint64pow10", Rows.laid_internal_strconv_uint64pow10), ("strconv.ErrRange", Rows.laid_strconv_ErrRange), ("strconv.ErrSyntax", Rows.laid_strconv_ErrSyntax)] w) false (World.doorLaid Tryd.prog 400 os) #[.agg #[.bool false, .slice none 0 0], .string ⟨#[]⟩] 8 rfl (World.shaped_of_RefB (by kernel_rfl) (by kernel_rfl)) (by kernel_rfl) (by kernel_rfl) (by kernel_rfl) (integerReads_door os _)) ?_
  intro W base args ds gs before hval0 hW _ _ hL _
  have hval : ∀ (j : Nat) t v, Tryd.f5.params[j]? = some t → args[j]? = some v → Value.okWide Tryd.prog W .any base t v := hval0
  have hW' := hW
  obtain ⟨p, q, hA0, hV, rfl, hfz, hnd⟩ := hW
  have hA : DataW.TrodAll enc Tryd.prog W 0 (fun _ => true) true Tryd.f5.params.toList args.toList ds p := hA0
  rw [Tryd.params5] at hA hval
  obtain ⟨v0, v1, d0, d1, p0, p1, rfl, rfl, rfl, h0, h1⟩ := trodAll_two hA
  obtain ⟨rfl, rfl⟩ := trodVars_none hV
  have hlt : ∀ x ∈ p0 ++ (p1), x.block < W.heap.size := fun x hx => hW'.lt x (by simpa using hx)
  obtain ⟨g0, a, n, c, xs, rfl, hr0, hx0⟩ := open_Int (hval 0 41 v0 rfl rfl) h0
  obtain ⟨s1, rfl, rfl, rfl, ws1⟩ := open_string Tryd.underlying9 (hval 1 9 v1 rfl rfl) h1
  refine (integerReads_walk g0 a n c _ s1 W (tp_of_laid hL) (IsZ.of g0 hr0 hx0) (by unfold maxLen at ws1; omega)).mono fun e W' ⟨he, hg⟩ => ?_
  subst he
  have hB := grown_below hg
  exact ⟨_, rfl, _, _, _, [], _, [], hW', trodAll_mk1 (shut_bool Tryd.underlying4 true),
    trodAll_mk2 (Below.trod laidOut1 readInt rowInt h0 hB fun x hx => hlt x (by simp [hx])) (shut_string Tryd.underlying9 ws1), rfl, hB.frame _, fun h => by cases h⟩

theorem integerReads_holds : Rows.IntegerReadsSaid :=
  OpenClaim.holds_of_wide 5 Tryd.f5 rfl rfl rfl rfl rfl rfl rfl ⟨rfl, rfl, rfl, rfl, rfl⟩ rfl rfl rfl rfl rfl (by kernel_rfl) Tryd.func5 (by kernel_rfl)
    (of_decide_eq_true (by kernel_rfl)) (by unfold Func.isWrapper; first | (rw [if_pos (by decide +kernel)]; kernel_rfl) | (rw [if_neg (by decide +kernel)]; exact ⟨rfl, rfl⟩))
    (fun os started H enc _ => integerReads_lifted os started H enc)

theorem integerReads_card : Rows.IntegerReadsCardSaid :=
  Claim7.holds_tied_plain_at .later [] [.data, .data, .data, .sentinel, .sentinel] true _ true
    integerReads_holds (fun _ h => by cases h) (by kernel_rfl) (fun _ h => by cases h) integerReads_row_tie rfl ⟨rfl, rfl⟩ (by kernel_rfl) rfl
    (fun f fn hf hfn => by
      obtain rfl : f = 5 := Option.some.inj ((show Tryd.prog.funcNamed "geoprover/geoproverlaw02.IntegerReads" = some 5 by kernel_rfl).symm.trans hf) |>.symm
      obtain rfl : fn = Tryd.f5 := (Option.some.inj (Tryd.func5.symm.trans hfn)).symm
      exact ⟨by kernel_rfl, fun j t ht => by
        rw [Tryd.params5] at ht
        have hm : t ∈ [41, 9] := by simpa using Array.mem_of_getElem? ht
        have hall : ([41, 9].all fun u => !Tryd.prog.wantsStandIn u) = true := by kernel_rfl
        exact (show Tryd.prog.wantsStandIn t = false by simpa using List.all_eq_true.1 hall t hm)⟩)
    (by kernel_rfl)

end Go.Proofs.YtkggoniecmlglaaDoor
