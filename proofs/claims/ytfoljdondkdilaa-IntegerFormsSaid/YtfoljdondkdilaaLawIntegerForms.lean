import Derived.Test.YtfoljdondkdilaaIntOpen
import Derived.Test.YtfoljdondkdilaaIntM
import Derived.Test.YtfoljdondkdilaaIntN
import Derived.Test.YtfoljdondkdilaaIntRB
import Derived.Test.YtfoljdondkdilaaSmall2
import Derived.Test.YtfoljdondkdilaaAlive2
import Derived.Deep.RegionHeld3
set_option linter.unusedVariables false
set_option linter.unusedSimpArgs false
namespace Go.Proofs.Ytfoljdondkdilaa
open Go.ChangeShapes Go.WideShapes Go.ChangeAt Go.RowKit Nm

theorem small2_three (ga gb gc : Bool) (a b r : Option Addr) (n c m d l k : Nat) (w : World) (G : Nat) (hG : G = w.heap.size) :
    Calls Try.prog 36 #[.slice (some ⟨G, 0, none⟩) 3 3] (w.alloc (.cells #[.bool ga, .slice a n c, .bool gb, .slice b m d, .bool gc, .slice r l k] 47)) fun e w' =>
      e = .returned (.bool (decide (n ≤ 24 ∧ m ≤ 24 ∧ l ≤ 24))) ∧ w.grownBy w' none := by
  subst hG
  have := small2_any w.heap.size 3 [(a, n, c), (b, m, d), (r, l, k)] (w.alloc (.cells #[.bool ga, .slice a n c, .bool gb, .slice b m d, .bool gc, .slice r l k] 47)) (by simp) (fun j hj => by
    match j, hj with
    | 0, _ => simp
    | 1, _ => simp
    | 2, _ => simp)
  refine this.mono fun e w' ⟨h1, h2⟩ => ⟨by simpa using h1, h2 ▸ World.grownBy_alloc w _ none⟩

theorem small2_two (ga gb : Bool) (a b : Option Addr) (n c m d : Nat) (w : World) (G : Nat) (hG : G = w.heap.size) :
    Calls Try.prog 36 #[.slice (some ⟨G, 0, none⟩) 2 2] (w.alloc (.cells #[.bool ga, .slice a n c, .bool gb, .slice b m d] 47)) fun e w' =>
      e = .returned (.bool (decide (n ≤ 24 ∧ m ≤ 24))) ∧ w.grownBy w' none := by
  subst hG
  have := small2_any w.heap.size 2 [(a, n, c), (b, m, d)] (w.alloc (.cells #[.bool ga, .slice a n c, .bool gb, .slice b m d] 47)) (by simp) (fun j hj => by
    match j, hj with
    | 0, _ => simp
    | 1, _ => simp)
  refine this.mono fun e w' ⟨h1, h2⟩ => ⟨by simpa using h1, h2 ▸ World.grownBy_alloc w _ none⟩

theorem small2_one (ga : Bool) (a : Option Addr) (n c : Nat) (w : World) (G : Nat) (hG : G = w.heap.size) :
    Calls Try.prog 36 #[.slice (some ⟨G, 0, none⟩) 1 1] (w.alloc (.cells #[.bool ga, .slice a n c] 47)) fun e w' =>
      e = .returned (.bool (decide (n ≤ 24))) ∧ w.grownBy w' none := by
  subst hG
  have := small2_any w.heap.size 1 [(a, n, c)] (w.alloc (.cells #[.bool ga, .slice a n c] 47)) (by simp) (fun j hj => by
    match j, hj with
    | 0, _ => simp)
  refine this.mono fun e w' ⟨h1, h2⟩ => ⟨by simpa using h1, h2 ▸ World.grownBy_alloc w _ none⟩

set_option maxHeartbeats 4000000 in
theorem integerForms_walk (ga gb : Bool) (a b : Option Addr) (n c m d : Nat) (A B : Int) (w : World) (hA : IsZ w ga a n c A) (hB : IsZ w gb b m d B) (z : Int) (hz1 : -9223372036854775808 ≤ z) (hz2 : z ≤ 9223372036854775807) :
    Calls Try.prog 8 #[.agg #[.bool ga, .slice a n c], .agg #[.bool gb, .slice b m d], .int .i64 z] w fun e w' => e = .returned (.bool true) ∧ w.grownBy w' none := by
  have hW3 := (grown_trans (World.grownBy_alloc w (.cells #[.bool ga, .slice a n c] 47) none) (World.grownBy_alloc _ (.cells #[.bool gb, .slice b m d] 47) none))
  have HS := hid (small2_two ga gb a b n c m d ((w.alloc (.cells #[.bool ga, .slice a n c] 47)).alloc (.cells #[.bool gb, .slice b m d] 47)) (w.heap.size + 1 + 1) (by simp))
  by_cases h24 : n ≤ 24 ∧ m ≤ 24
  · rw [decide_eq_true h24] at HS
    obtain ⟨hn, hm⟩ := h24
    obtain ⟨xs0, hrd, _⟩ := hA.1
    obtain ⟨v, R1, R2⟩ := right_both ga hrd
    replace R1 := hid R1
    replace R2 := hid R2
    clear hrd
    go_enter Try.func8, Try.ntmps8
    go_wp2_with fail
    refine HS.out.mono ?_
    rintro e w0 ⟨rfl, hg⟩
    have x00 : w0.cell? ⟨w.heap.size, 0, none⟩ = some (.bool ga) := hg.cell (by simp [go_sem, World.cell?_alloc_past]) (by simp)
    have x01 : w0.cell? ⟨w.heap.size, 1, none⟩ = some (.slice a n c) := hg.cell (by simp [go_sem, World.cell?_alloc_past]) (by simp)
    have x10 : w0.cell? ⟨w.heap.size + 1, 0, none⟩ = some (.bool gb) := hg.cell (by simp [go_sem, World.cell?_alloc_past]) (by simp)
    have x11 : w0.cell? ⟨w.heap.size + 1, 1, none⟩ = some (.slice b m d) := hg.cell (by simp [go_sem, World.cell?_alloc_past]) (by simp)
    replace hg := grown_trans hW3 hg
    replace hA := hA.keep hg; replace hB := hB.keep hg
    have hW := hg
    clear hg
    go_wp2_with fail
    have hg := grown_drew w0 none
    replace hA := hA.keep hg; replace hB := hB.keep hg; replace x00 := hg.cell x00 (by simp); replace x01 := hg.cell x01 (by simp)
    replace x10 := hg.cell x10 (by simp); replace x11 := hg.cell x11 (by simp)
    replace hW := grown_trans hW hg
    clear hg
    go_region_held3 (fun w' => w'.cell? ⟨w.heap.size, 0, none⟩ = some (.bool ga) ∧ w'.cell? ⟨w.heap.size, 1, none⟩ = some (.slice a n c) ∧ w'.cell? ⟨w.heap.size + 1, 0, none⟩ = some (.bool gb) ∧ w'.cell? ⟨w.heap.size + 1, 1, none⟩ = some (.slice b m d)) (((try dsimp only) <;> (repeat' apply And.intro) <;> (repeat' (first | assumption | refine (World.grownBy_alloc _ _ none).cell ?_ (by simp) | refine (grown_drew _ none).cell ?_ (by simp) | refine (grown_setCell _ _ _).cell ?_ (by simp; omega)))))
      (first
        | (go_at_call 38; (with_reducible refine (R1.out _ hW).mono ?_); rintro e w1 ⟨rfl, hg⟩; replace hA := hA.keep hg; replace hB := hB.keep hg; replace x00 := hg.cell x00 (by simp); replace x01 := hg.cell x01 (by simp); replace x10 := hg.cell x10 (by simp); replace x11 := hg.cell x11 (by simp); replace hW := grown_trans hW hg; clear hg)
        | (go_at_call 39; (with_reducible refine (R2.out _ hW).mono ?_); rintro e w2 ⟨rfl, hg⟩; replace hA := hA.keep hg; replace hB := hB.keep hg; replace x00 := hg.cell x00 (by simp); replace x01 := hg.cell x01 (by simp); replace x10 := hg.cell x10 (by simp); replace x11 := hg.cell x11 (by simp); replace hW := grown_trans hW hg; clear hg)
        | (go_at_call 41; (with_reducible refine (intNorm_any hA (by omega)).mono ?_); rintro e w3 ⟨g3, p3, n3, c3, rfl, u1, hn3, hg⟩; replace hA := hA.keep hg; replace hB := hB.keep hg; replace x00 := hg.cell x00 (by simp); replace x01 := hg.cell x01 (by simp); replace x10 := hg.cell x10 (by simp); replace x11 := hg.cell x11 (by simp); replace hW := grown_trans hW hg; clear hg)
        | (go_at_call 42; (with_reducible refine (rNorm_any hA (by omega)).mono ?_); rintro e w4 ⟨g4, p4, n4, c4, rfl, u2, hn4, hg⟩; replace hA := hA.keep hg; replace hB := hB.keep hg; replace u1 := u1.keep hg; replace x00 := hg.cell x00 (by simp); replace x01 := hg.cell x01 (by simp); replace x10 := hg.cell x10 (by simp); replace x11 := hg.cell x11 (by simp); replace hW := grown_trans hW hg; clear hg)
        | (go_at_call 40; (with_reducible refine (same2_any u1 u2 rfl).mono ?_); rintro e w5 ⟨rfl, hg⟩; replace hA := hA.keep hg; replace hB := hB.keep hg; replace u1 := u1.keep hg; replace u2 := u2.keep hg; replace x00 := hg.cell x00 (by simp); replace x01 := hg.cell x01 (by simp); replace x10 := hg.cell x10 (by simp); replace x11 := hg.cell x11 (by simp); replace hW := grown_trans hW hg; clear hg)
        | (go_at_call 43; (with_reducible refine (intSign_any hA (by omega)).mono ?_); rintro e w6 ⟨rfl, hg⟩; replace hA := hA.keep hg; replace hB := hB.keep hg; replace u1 := u1.keep hg; replace u2 := u2.keep hg; replace x00 := hg.cell x00 (by simp); replace x01 := hg.cell x01 (by simp); replace x10 := hg.cell x10 (by simp); replace x11 := hg.cell x11 (by simp); replace hW := grown_trans hW hg; clear hg)
        | (go_at_call 44; (with_reducible refine (rSign_any hA (by omega)).mono ?_); rintro e w7 ⟨rfl, hg⟩; replace hA := hA.keep hg; replace hB := hB.keep hg; replace u1 := u1.keep hg; replace u2 := u2.keep hg; replace x00 := hg.cell x00 (by simp); replace x01 := hg.cell x01 (by simp); replace x10 := hg.cell x10 (by simp); replace x11 := hg.cell x11 (by simp); replace hW := grown_trans hW hg; clear hg)
        | (go_at_call 45; (with_reducible refine (intCmp_any hA hB (by omega) (by omega)).mono ?_); rintro e w8 ⟨rfl, hg⟩; replace hA := hA.keep hg; replace hB := hB.keep hg; replace u1 := u1.keep hg; replace u2 := u2.keep hg; replace x00 := hg.cell x00 (by simp); replace x01 := hg.cell x01 (by simp); replace x10 := hg.cell x10 (by simp); replace x11 := hg.cell x11 (by simp); replace hW := grown_trans hW hg; clear hg)
        | (go_at_call 46; (with_reducible refine (rCmp_any hA hB (by omega) (by omega)).mono ?_); rintro e w9 ⟨rfl, hg⟩; replace hA := hA.keep hg; replace hB := hB.keep hg; replace u1 := u1.keep hg; replace u2 := u2.keep hg; replace x00 := hg.cell x00 (by simp); replace x01 := hg.cell x01 (by simp); replace x10 := hg.cell x10 (by simp); replace x11 := hg.cell x11 (by simp); replace hW := grown_trans hW hg; clear hg)
        | (go_at_call 47; (with_reducible refine (intNeg_any hA (by omega)).mono ?_); rintro e w10 ⟨g10, p10, n10, c10, rfl, v1, hn10, hg⟩; replace hA := hA.keep hg; replace hB := hB.keep hg; replace u1 := u1.keep hg; replace u2 := u2.keep hg; replace x00 := hg.cell x00 (by simp); replace x01 := hg.cell x01 (by simp); replace x10 := hg.cell x10 (by simp); replace x11 := hg.cell x11 (by simp); replace hW := grown_trans hW hg; clear hg)
        | (go_at_call 48; (with_reducible refine (rNeg_any hA (by omega)).mono ?_); rintro e w11 ⟨g11, p11, n11, c11, rfl, v2, hn11, hg⟩; replace hA := hA.keep hg; replace hB := hB.keep hg; replace u1 := u1.keep hg; replace u2 := u2.keep hg; replace v1 := v1.keep hg; replace x00 := hg.cell x00 (by simp); replace x01 := hg.cell x01 (by simp); replace x10 := hg.cell x10 (by simp); replace x11 := hg.cell x11 (by simp); replace hW := grown_trans hW hg; clear hg)
        | (go_at_call 40; (with_reducible refine (same2_any v1 v2 rfl).mono ?_); rintro e w12 ⟨rfl, hg⟩; replace hA := hA.keep hg; replace hB := hB.keep hg; replace u1 := u1.keep hg; replace u2 := u2.keep hg; replace v1 := v1.keep hg; replace v2 := v2.keep hg; replace x00 := hg.cell x00 (by simp); replace x01 := hg.cell x01 (by simp); replace x10 := hg.cell x10 (by simp); replace x11 := hg.cell x11 (by simp); replace hW := grown_trans hW hg; clear hg)
        | (go_at_call 49; (with_reducible refine (intOf_any z _ hz1 hz2).mono ?_); rintro e w13 ⟨g13, p13, n13, c13, rfl, o1, hn13, hg⟩; replace hA := hA.keep hg; replace hB := hB.keep hg; replace u1 := u1.keep hg; replace u2 := u2.keep hg; replace v1 := v1.keep hg; replace v2 := v2.keep hg; replace x00 := hg.cell x00 (by simp); replace x01 := hg.cell x01 (by simp); replace x10 := hg.cell x10 (by simp); replace x11 := hg.cell x11 (by simp); replace hW := grown_trans hW hg; clear hg)
        | (go_at_call 50; (with_reducible refine (rOfI z _ hz1 hz2).mono ?_); rintro e w14 ⟨g14, p14, n14, c14, rfl, o2, hn14, hg⟩; replace hA := hA.keep hg; replace hB := hB.keep hg; replace u1 := u1.keep hg; replace u2 := u2.keep hg; replace v1 := v1.keep hg; replace v2 := v2.keep hg; replace o1 := o1.keep hg; replace x00 := hg.cell x00 (by simp); replace x01 := hg.cell x01 (by simp); replace x10 := hg.cell x10 (by simp); replace x11 := hg.cell x11 (by simp); replace hW := grown_trans hW hg; clear hg)
        | (go_at_call 40; (with_reducible refine (same2_any o1 o2 rfl).mono ?_); rintro e w15 ⟨rfl, hg⟩; replace hA := hA.keep hg; replace hB := hB.keep hg; replace u1 := u1.keep hg; replace u2 := u2.keep hg; replace v1 := v1.keep hg; replace v2 := v2.keep hg; replace o1 := o1.keep hg; replace o2 := o2.keep hg; replace x00 := hg.cell x00 (by simp); replace x01 := hg.cell x01 (by simp); replace x10 := hg.cell x10 (by simp); replace x11 := hg.cell x11 (by simp); replace hW := grown_trans hW hg; clear hg)
        | (go_at_call 37; (with_reducible refine (alive2 _).mono ?_); rintro e w16 ⟨rfl, hg⟩; replace hA := hA.keep hg; replace hB := hB.keep hg; replace u1 := u1.keep hg; replace u2 := u2.keep hg; replace v1 := v1.keep hg; replace v2 := v2.keep hg; replace o1 := o1.keep hg; replace o2 := o2.keep hg; replace x00 := hg.cell x00 (by simp); replace x01 := hg.cell x01 (by simp); replace x10 := hg.cell x10 (by simp); replace x11 := hg.cell x11 (by simp); replace hW := grown_trans hW hg; clear hg))
    go_wp2_with fail
    go_ret
    exact ⟨rfl, hW⟩
  · rw [decide_eq_false h24] at HS
    go_enter Try.func8, Try.ntmps8
    go_wp2_with fail
    refine HS.out.mono ?_
    rintro e w0 ⟨rfl, hg⟩
    replace hW := grown_trans hW3 hg
    go_wp2_with fail
    refine (alive2 _).mono ?_
    rintro e w1 ⟨rfl, hg⟩
    go_wp2_with fail
    go_ret
    exact ⟨rfl, grown_trans hW hg⟩

set_option maxRecDepth 100000 in
theorem integerForms_lifted (os : Os) (started : os.Started) (H : Type) (enc : TypeId × Value → H) :
    ReturnsInHanded {} Try.checked os 8 .any (Rows.integerFormsSpec.pre6 enc Try.prog Try.f8 Rows.integerFormsRow.domain false) (Rows.integerFormsSpec.post enc Try.prog Try.f8 false true false false) := by
  refine returnsInHanded_of_change (C := Try.checked) own1 started (by kernel_rfl) Try.func8
    (ChangeSpec.witness6 (enc := enc) (C := Try.checked) false ⟨#[], #[.agg #[.bool false, .slice none 0 0], .agg #[.bool false, .slice none 0 0], .int .i64 0], []⟩ 8 (by kernel_rfl) (by kernel_rfl) (by kernel_rfl) (by kernel_rfl)) ?_
  intro W base args ds gs before hval0 hW hcnd _
  have hval : ∀ (j : Nat) t v, Try.f8.params[j]? = some t → args[j]? = some v → Value.okWide Try.prog W .any base t v := hval0
  have hW' := hW
  obtain ⟨p, q, hA0, hV, rfl, hfz, hnd⟩ := hW
  have hA : DataW.TrodAll enc Try.prog W 0 (fun _ => true) true Try.f8.params.toList args.toList ds p := hA0
  rw [Try.params8] at hA hval
  obtain ⟨v0, v1, v2, d0, d1, d2, p0, p1, p2, rfl, rfl, rfl, h0, h1, h2⟩ := trodAll_three hA
  obtain ⟨rfl, rfl⟩ := trodVars_none hV
  have hlt : ∀ x ∈ p0 ++ (p1 ++ (p2)), x.block < W.heap.size := fun x hx => hW'.lt x (by simpa using hx)
  obtain ⟨g0, a, n, c, xs, rfl, hr0, hx0⟩ := open_Int (hval 0 47 v0 rfl rfl) h0
  obtain ⟨g1, b, m, d, ys, rfl, hr1, hx1⟩ := open_Int (hval 1 47 v1 rfl rfl) h1
  obtain ⟨z2, rfl, rfl, rfl, wz2⟩ := open_int Try.underlying3 (hval 2 3 v2 rfl rfl) h2
  refine (integerForms_walk g0 g1 a b n c m d _ _ W (IsZ.of g0 hr0 hx0) (IsZ.of g1 hr1 hx1) z2 (bounds_i64 wz2).1 (bounds_i64 wz2).2).mono fun e W' ⟨he, hg⟩ => ?_
  subst he
  have hB := grown_below hg
  exact ⟨_, rfl, _, _, _, [], _, [], hW', trodAll_mk1 (shut_bool Try.underlying4 true),
    trodAll_mk3 (Below.trod laidOut1 readInt rowInt h0 hB fun x hx => hlt x (by simp [hx])) (Below.trod laidOut1 readInt rowInt h1 hB fun x hx => hlt x (by simp [hx])) (shut_int Try.underlying3 wz2), rfl, hB.frame _, fun h => by cases h⟩

theorem integerForms_holds : Rows.IntegerFormsSaid :=
  OpenClaim.holds_of_wide 8 Try.f8 rfl rfl rfl rfl rfl rfl rfl ⟨rfl, rfl, rfl, rfl, rfl⟩ rfl rfl rfl rfl rfl (by kernel_rfl) Try.func8 (by kernel_rfl)
    (of_decide_eq_true (by kernel_rfl)) (by unfold Func.isWrapper; first | (rw [if_pos (by decide +kernel)]; kernel_rfl) | (rw [if_neg (by decide +kernel)]; exact ⟨rfl, rfl⟩))
    (fun os started H enc _ => integerForms_lifted os started H enc)

end Go.Proofs.Ytfoljdondkdilaa
