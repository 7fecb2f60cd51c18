import Derived.Test.YtfoljdondkdilaaIntOpen
import Derived.Test.YtfoljdondkdilaaIntM
import Derived.Test.YtfoljdondkdilaaIntN
import Derived.Test.YtfoljdondkdilaaSmall2
import Derived.Test.YtfoljdondkdilaaAlive2
import Derived.Deep.RegionHeld3
set_option linter.unusedVariables false
set_option linter.unusedSimpArgs false
namespace Go.Proofs.Ytfoljdondkdilaa
open Go.ChangeShapes Go.WideShapes Go.ChangeAt Go.RowKit Nm

theorem small2_three (ga gb gc : Bool) (a b r : Option Addr) (n c m d l k : Nat) (w : World) (G : Nat) (hG : G = w.heap.size) :
    Calls Try.prog 36 #[.slice (some ⟨G, 0, none⟩) 3 3] (w.alloc (.cells #[.bool ga, .slice a n c, .bool gb, .slice b m d, .bool gc, .slice r l k] 47)) fun e w' =>
      e = .returned (.bool (decide (n ≤ 24 ∧ m ≤ 24 ∧ l ≤ 24))) ∧ w.grownBy w' none := by
  subst hG
  have := small2_any w.heap.size 3 [(a, n, c), (b, m, d), (r, l, k)] (w.alloc (.cells #[.bool ga, .slice a n c, .bool gb, .slice b m d, .bool gc, .slice r l k] 47)) (by simp) (fun j hj => by
    match j, hj with
    | 0, _ => simp
    | 1, _ => simp
    | 2, _ => simp)
  refine this.mono fun e w' ⟨h1, h2⟩ => ⟨by simpa using h1, h2 ▸ World.grownBy_alloc w _ none⟩

theorem small2_two (ga gb : Bool) (a b : Option Addr) (n c m d : Nat) (w : World) (G : Nat) (hG : G = w.heap.size) :
    Calls Try.prog 36 #[.slice (some ⟨G, 0, none⟩) 2 2] (w.alloc (.cells #[.bool ga, .slice a n c, .bool gb, .slice b m d] 47)) fun e w' =>
      e = .returned (.bool (decide (n ≤ 24 ∧ m ≤ 24))) ∧ w.grownBy w' none := by
  subst hG
  have := small2_any w.heap.size 2 [(a, n, c), (b, m, d)] (w.alloc (.cells #[.bool ga, .slice a n c, .bool gb, .slice b m d] 47)) (by simp) (fun j hj => by
    match j, hj with
    | 0, _ => simp
    | 1, _ => simp)
  refine this.mono fun e w' ⟨h1, h2⟩ => ⟨by simpa using h1, h2 ▸ World.grownBy_alloc w _ none⟩

theorem small2_one (ga : Bool) (a : Option Addr) (n c : Nat) (w : World) (G : Nat) (hG : G = w.heap.size) :
    Calls Try.prog 36 #[.slice (some ⟨G, 0, none⟩) 1 1] (w.alloc (.cells #[.bool ga, .slice a n c] 47)) fun e w' =>
      e = .returned (.bool (decide (n ≤ 24))) ∧ w.grownBy w' none := by
  subst hG
  have := small2_any w.heap.size 1 [(a, n, c)] (w.alloc (.cells #[.bool ga, .slice a n c] 47)) (by simp) (fun j hj => by
    match j, hj with
    | 0, _ => simp)
  refine this.mono fun e w' ⟨h1, h2⟩ => ⟨by simpa using h1, h2 ▸ World.grownBy_alloc w _ none⟩

theorem cmpI_neg (A B : Int) : cmpI B A = -(cmpI A B) := by unfold cmpI; (repeat' split) <;> omega
theorem cmpI_sub (A B : Int) : cmpI (A - B) 0 = cmpI A B := by unfold cmpI; (repeat' split) <;> omega
theorem cmpI_add (A B C : Int) : cmpI (A + C) (B + C) = cmpI A B := by unfold cmpI; (repeat' split) <;> omega
theorem cmpI_mul0 (A B : Int) : cmpI (A * B) 0 = cmpI A 0 * cmpI B 0 := by
  rcases Int.lt_trichotomy A 0 with h1 | rfl | h1 <;> rcases Int.lt_trichotomy B 0 with h2 | rfl | h2
  · have := Int.mul_pos_of_neg_of_neg h1 h2
    unfold cmpI; simp [h1, h2, this, Int.not_lt.2 (Int.le_of_lt this)]
  · simp [cmpI]
  · have := Int.mul_neg_of_neg_of_pos h1 h2
    unfold cmpI; simp [h1, h2, this, Int.not_lt.2 (Int.le_of_lt h2)]
  · simp [cmpI]
  · simp [cmpI]
  · simp [cmpI]
  · have := Int.mul_neg_of_pos_of_neg h1 h2
    unfold cmpI; simp [h1, h2, this, Int.not_lt.2 (Int.le_of_lt h1)]
  · simp [cmpI]
  · have := Int.mul_pos h1 h2
    unfold cmpI; simp [h1, h2, this, Int.not_lt.2 (Int.le_of_lt this), Int.not_lt.2 (Int.le_of_lt h1), Int.not_lt.2 (Int.le_of_lt h2)]
theorem cmpI_mul (A B C : Int) : cmpI (A * C) (B * C) = cmpI A B * cmpI C 0 := by
  rw [← cmpI_sub (A * C), ← Int.sub_mul, cmpI_mul0, cmpI_sub]
theorem wrap_sign1 {x : Int} (hx : -1 ≤ x ∧ x ≤ 1) : IntKind.i64.wrap x = x := by
  obtain rfl | rfl | rfl : x = -1 ∨ x = 0 ∨ x = 1 := by omega
  all_goals decide
theorem wrap_sign2 {x y : Int} (hx : -1 ≤ x ∧ x ≤ 1) (hy : -1 ≤ y ∧ y ≤ 1) : IntKind.i64.wrap (x * y) = x * y := by
  obtain rfl | rfl | rfl : x = -1 ∨ x = 0 ∨ x = 1 := by omega
  all_goals obtain rfl | rfl | rfl : y = -1 ∨ y = 0 ∨ y = 1 := by omega
  all_goals decide

set_option maxHeartbeats 4000000 in
theorem integerOrder_walk (ga gb gc : Bool) (a b r : Option Addr) (n c m d l k : Nat) (A B C : Int) (w : World) (hA : IsZ w ga a n c A) (hB : IsZ w gb b m d B) (hC : IsZ w gc r l k C) :
    Calls Try.prog 11 #[.agg #[.bool ga, .slice a n c], .agg #[.bool gb, .slice b m d], .agg #[.bool gc, .slice r l k]] w fun e w' => e = .returned (.bool true) ∧ w.grownBy w' none := by
  have hW3 := (grown_trans (grown_trans (World.grownBy_alloc w (.cells #[.bool ga, .slice a n c] 47) none) (World.grownBy_alloc _ (.cells #[.bool gb, .slice b m d] 47) none)) (World.grownBy_alloc _ (.cells #[.bool gc, .slice r l k] 47) none))
  have HS := hid (small2_three ga gb gc a b r n c m d l k (((w.alloc (.cells #[.bool ga, .slice a n c] 47)).alloc (.cells #[.bool gb, .slice b m d] 47)).alloc (.cells #[.bool gc, .slice r l k] 47)) (w.heap.size + 1 + 1 + 1) (by simp))
  by_cases h24 : n ≤ 24 ∧ m ≤ 24 ∧ l ≤ 24
  · rw [decide_eq_true h24] at HS
    obtain ⟨hn, hm, hl⟩ := h24
    go_enter Try.func11, Try.ntmps11
    go_wp2_with fail
    refine HS.out.mono ?_
    rintro e w0 ⟨rfl, hg⟩
    have x00 : w0.cell? ⟨w.heap.size, 0, none⟩ = some (.bool ga) := hg.cell (by simp [go_sem, World.cell?_alloc_past]) (by simp)
    have x01 : w0.cell? ⟨w.heap.size, 1, none⟩ = some (.slice a n c) := hg.cell (by simp [go_sem, World.cell?_alloc_past]) (by simp)
    have x10 : w0.cell? ⟨w.heap.size + 1, 0, none⟩ = some (.bool gb) := hg.cell (by simp [go_sem, World.cell?_alloc_past]) (by simp)
    have x11 : w0.cell? ⟨w.heap.size + 1, 1, none⟩ = some (.slice b m d) := hg.cell (by simp [go_sem, World.cell?_alloc_past]) (by simp)
    have x20 : w0.cell? ⟨w.heap.size + 1 + 1, 0, none⟩ = some (.bool gc) := hg.cell (by simp [go_sem, World.cell?_alloc_past]) (by simp)
    have x21 : w0.cell? ⟨w.heap.size + 1 + 1, 1, none⟩ = some (.slice r l k) := hg.cell (by simp [go_sem, World.cell?_alloc_past]) (by simp)
    replace hg := grown_trans hW3 hg
    replace hA := hA.keep hg; replace hB := hB.keep hg; replace hC := hC.keep hg
    have hW := hg
    clear hg
    go_wp2_with fail
    have b1 := cmpI_bound A B
    have b2 := cmpI_bound C 0
    have b3 := cmpI_bound A 0
    have b4 := cmpI_bound B 0
    have q0 := wrap_sign1 b1
    have q1 := wrap_sign2 b1 b2
    have q2 := wrap_sign2 b3 b4
    go_wp2_with fail
    refine (intCmp_any hA hB (by omega) (by omega)).mono ?_
    rintro e w1 ⟨rfl, hg⟩
    replace hA := hA.keep hg; replace hB := hB.keep hg; replace hC := hC.keep hg; replace x00 := hg.cell x00 (by simp)
    replace x01 := hg.cell x01 (by simp); replace x10 := hg.cell x10 (by simp); replace x11 := hg.cell x11 (by simp); replace x20 := hg.cell x20 (by simp)
    replace x21 := hg.cell x21 (by simp)
    replace hW := grown_trans hW hg
    clear hg
    go_wp2_with fail
    have hg := grown_drew w1 none
    replace hA := hA.keep hg; replace hB := hB.keep hg; replace hC := hC.keep hg; replace x00 := hg.cell x00 (by simp)
    replace x01 := hg.cell x01 (by simp); replace x10 := hg.cell x10 (by simp); replace x11 := hg.cell x11 (by simp); replace x20 := hg.cell x20 (by simp)
    replace x21 := hg.cell x21 (by simp)
    replace hW := grown_trans hW hg
    clear hg
    go_region_held3 (fun w' => w'.cell? ⟨w.heap.size, 0, none⟩ = some (.bool ga) ∧ w'.cell? ⟨w.heap.size, 1, none⟩ = some (.slice a n c) ∧ w'.cell? ⟨w.heap.size + 1, 0, none⟩ = some (.bool gb) ∧ w'.cell? ⟨w.heap.size + 1, 1, none⟩ = some (.slice b m d) ∧ w'.cell? ⟨w.heap.size + 1 + 1, 0, none⟩ = some (.bool gc) ∧ w'.cell? ⟨w.heap.size + 1 + 1, 1, none⟩ = some (.slice r l k)) (((try dsimp only) <;> (repeat' apply And.intro) <;> (repeat' (first | assumption | refine (World.grownBy_alloc _ _ none).cell ?_ (by simp) | refine (grown_drew _ none).cell ?_ (by simp) | refine (grown_setCell _ _ _).cell ?_ (by simp; omega)))))
      (first
        | (go_at_call 45; (with_reducible refine (intCmp_any hB hA (by omega) (by omega)).mono ?_); rintro e w2 ⟨rfl, hg⟩; rw [cmpI_neg A B]; replace hA := hA.keep hg; replace hB := hB.keep hg; replace hC := hC.keep hg; replace x00 := hg.cell x00 (by simp); replace x01 := hg.cell x01 (by simp); replace x10 := hg.cell x10 (by simp); replace x11 := hg.cell x11 (by simp); replace x20 := hg.cell x20 (by simp); replace x21 := hg.cell x21 (by simp); replace hW := grown_trans hW hg; clear hg)
        | (go_at_call 53; (with_reducible refine (intSub_any hA hB (by omega) (by omega)).mono ?_); rintro e w3 ⟨g3, p3, n3, c3, rfl, d1, hn3, hg⟩; replace hA := hA.keep hg; replace hB := hB.keep hg; replace hC := hC.keep hg; replace x00 := hg.cell x00 (by simp); replace x01 := hg.cell x01 (by simp); replace x10 := hg.cell x10 (by simp); replace x11 := hg.cell x11 (by simp); replace x20 := hg.cell x20 (by simp); replace x21 := hg.cell x21 (by simp); replace hW := grown_trans hW hg; clear hg)
        | (go_at_call 43; (with_reducible refine (intSign_any d1.z (by omega)).mono ?_); rintro e w4 ⟨rfl, hg⟩; rw [cmpI_sub]; replace hA := hA.keep hg; replace hB := hB.keep hg; replace hC := hC.keep hg; replace d1 := d1.keep hg; replace x00 := hg.cell x00 (by simp); replace x01 := hg.cell x01 (by simp); replace x10 := hg.cell x10 (by simp); replace x11 := hg.cell x11 (by simp); replace x20 := hg.cell x20 (by simp); replace x21 := hg.cell x21 (by simp); replace hW := grown_trans hW hg; clear hg)
        | (go_at_call 51; (with_reducible refine (intAdd_any hA hC (by omega) (by omega)).mono ?_); rintro e w5 ⟨g5, p5, n5, c5, rfl, a1, hn5, hg⟩; replace hA := hA.keep hg; replace hB := hB.keep hg; replace hC := hC.keep hg; replace d1 := d1.keep hg; replace x00 := hg.cell x00 (by simp); replace x01 := hg.cell x01 (by simp); replace x10 := hg.cell x10 (by simp); replace x11 := hg.cell x11 (by simp); replace x20 := hg.cell x20 (by simp); replace x21 := hg.cell x21 (by simp); replace hW := grown_trans hW hg; clear hg)
        | (go_at_call 51; (with_reducible refine (intAdd_any hB hC (by omega) (by omega)).mono ?_); rintro e w6 ⟨g6, p6, n6, c6, rfl, a2, hn6, hg⟩; replace hA := hA.keep hg; replace hB := hB.keep hg; replace hC := hC.keep hg; replace d1 := d1.keep hg; replace a1 := a1.keep hg; replace x00 := hg.cell x00 (by simp); replace x01 := hg.cell x01 (by simp); replace x10 := hg.cell x10 (by simp); replace x11 := hg.cell x11 (by simp); replace x20 := hg.cell x20 (by simp); replace x21 := hg.cell x21 (by simp); replace hW := grown_trans hW hg; clear hg)
        | (go_at_call 45; (with_reducible refine (intCmp_any a1.z a2.z (by omega) (by omega)).mono ?_); rintro e w7 ⟨rfl, hg⟩; rw [cmpI_add]; replace hA := hA.keep hg; replace hB := hB.keep hg; replace hC := hC.keep hg; replace d1 := d1.keep hg; replace a1 := a1.keep hg; replace a2 := a2.keep hg; replace x00 := hg.cell x00 (by simp); replace x01 := hg.cell x01 (by simp); replace x10 := hg.cell x10 (by simp); replace x11 := hg.cell x11 (by simp); replace x20 := hg.cell x20 (by simp); replace x21 := hg.cell x21 (by simp); replace hW := grown_trans hW hg; clear hg))
    go_wp2_with fail
    have hg := grown_drew w7 none
    replace hA := hA.keep hg; replace hB := hB.keep hg; replace hC := hC.keep hg; replace d1 := d1.keep hg
    replace a1 := a1.keep hg; replace a2 := a2.keep hg; replace x00 := hg.cell x00 (by simp); replace x01 := hg.cell x01 (by simp)
    replace x10 := hg.cell x10 (by simp); replace x11 := hg.cell x11 (by simp); replace x20 := hg.cell x20 (by simp); replace x21 := hg.cell x21 (by simp)
    replace hW := grown_trans hW hg
    clear hg
    go_region_held3 (fun w' => w'.cell? ⟨w.heap.size, 0, none⟩ = some (.bool ga) ∧ w'.cell? ⟨w.heap.size, 1, none⟩ = some (.slice a n c) ∧ w'.cell? ⟨w.heap.size + 1, 0, none⟩ = some (.bool gb) ∧ w'.cell? ⟨w.heap.size + 1, 1, none⟩ = some (.slice b m d) ∧ w'.cell? ⟨w.heap.size + 1 + 1, 0, none⟩ = some (.bool gc) ∧ w'.cell? ⟨w.heap.size + 1 + 1, 1, none⟩ = some (.slice r l k)) (((try dsimp only) <;> (repeat' apply And.intro) <;> (repeat' (first | assumption | refine (World.grownBy_alloc _ _ none).cell ?_ (by simp) | refine (grown_drew _ none).cell ?_ (by simp) | refine (grown_setCell _ _ _).cell ?_ (by simp; omega)))))
      (first
        | (go_at_call 55; (with_reducible refine (intMul_any hA hC (by omega) (by omega)).mono ?_); rintro e w8 ⟨g8, p8, n8, c8, rfl, m1, hn8, hg⟩; replace hA := hA.keep hg; replace hB := hB.keep hg; replace hC := hC.keep hg; replace d1 := d1.keep hg; replace a1 := a1.keep hg; replace a2 := a2.keep hg; replace x00 := hg.cell x00 (by simp); replace x01 := hg.cell x01 (by simp); replace x10 := hg.cell x10 (by simp); replace x11 := hg.cell x11 (by simp); replace x20 := hg.cell x20 (by simp); replace x21 := hg.cell x21 (by simp); replace hW := grown_trans hW hg; clear hg)
        | (go_at_call 55; (with_reducible refine (intMul_any hB hC (by omega) (by omega)).mono ?_); rintro e w9 ⟨g9, p9, n9, c9, rfl, m2, hn9, hg⟩; replace hA := hA.keep hg; replace hB := hB.keep hg; replace hC := hC.keep hg; replace d1 := d1.keep hg; replace a1 := a1.keep hg; replace a2 := a2.keep hg; replace m1 := m1.keep hg; replace x00 := hg.cell x00 (by simp); replace x01 := hg.cell x01 (by simp); replace x10 := hg.cell x10 (by simp); replace x11 := hg.cell x11 (by simp); replace x20 := hg.cell x20 (by simp); replace x21 := hg.cell x21 (by simp); replace hW := grown_trans hW hg; clear hg)
        | (go_at_call 45; (with_reducible refine (intCmp_any m1.z m2.z (by omega) (by omega)).mono ?_); rintro e w10 ⟨rfl, hg⟩; rw [cmpI_mul]; replace hA := hA.keep hg; replace hB := hB.keep hg; replace hC := hC.keep hg; replace d1 := d1.keep hg; replace a1 := a1.keep hg; replace a2 := a2.keep hg; replace m1 := m1.keep hg; replace m2 := m2.keep hg; replace x00 := hg.cell x00 (by simp); replace x01 := hg.cell x01 (by simp); replace x10 := hg.cell x10 (by simp); replace x11 := hg.cell x11 (by simp); replace x20 := hg.cell x20 (by simp); replace x21 := hg.cell x21 (by simp); replace hW := grown_trans hW hg; clear hg)
        | (go_at_call 43; (with_reducible refine (intSign_any hC (by omega)).mono ?_); rintro e w11 ⟨rfl, hg⟩; replace hA := hA.keep hg; replace hB := hB.keep hg; replace hC := hC.keep hg; replace d1 := d1.keep hg; replace a1 := a1.keep hg; replace a2 := a2.keep hg; replace m1 := m1.keep hg; replace m2 := m2.keep hg; replace x00 := hg.cell x00 (by simp); replace x01 := hg.cell x01 (by simp); replace x10 := hg.cell x10 (by simp); replace x11 := hg.cell x11 (by simp); replace x20 := hg.cell x20 (by simp); replace x21 := hg.cell x21 (by simp); replace hW := grown_trans hW hg; clear hg)
        | (go_at_call 55; (with_reducible refine (intMul_any hA hB (by omega) (by omega)).mono ?_); rintro e w12 ⟨g12, p12, n12, c12, rfl, m3, hn12, hg⟩; replace hA := hA.keep hg; replace hB := hB.keep hg; replace hC := hC.keep hg; replace d1 := d1.keep hg; replace a1 := a1.keep hg; replace a2 := a2.keep hg; replace m1 := m1.keep hg; replace m2 := m2.keep hg; replace x00 := hg.cell x00 (by simp); replace x01 := hg.cell x01 (by simp); replace x10 := hg.cell x10 (by simp); replace x11 := hg.cell x11 (by simp); replace x20 := hg.cell x20 (by simp); replace x21 := hg.cell x21 (by simp); replace hW := grown_trans hW hg; clear hg)
        | (go_at_call 43; (with_reducible refine (intSign_any m3.z (by omega)).mono ?_); rintro e w13 ⟨rfl, hg⟩; rw [cmpI_mul0]; replace hA := hA.keep hg; replace hB := hB.keep hg; replace hC := hC.keep hg; replace d1 := d1.keep hg; replace a1 := a1.keep hg; replace a2 := a2.keep hg; replace m1 := m1.keep hg; replace m2 := m2.keep hg; replace m3 := m3.keep hg; replace x00 := hg.cell x00 (by simp); replace x01 := hg.cell x01 (by simp); replace x10 := hg.cell x10 (by simp); replace x11 := hg.cell x11 (by simp); replace x20 := hg.cell x20 (by simp); replace x21 := hg.cell x21 (by simp); replace hW := grown_trans hW hg; clear hg)
        | (go_at_call 43; (with_reducible refine (intSign_any hA (by omega)).mono ?_); rintro e w14 ⟨rfl, hg⟩; replace hA := hA.keep hg; replace hB := hB.keep hg; replace hC := hC.keep hg; replace d1 := d1.keep hg; replace a1 := a1.keep hg; replace a2 := a2.keep hg; replace m1 := m1.keep hg; replace m2 := m2.keep hg; replace m3 := m3.keep hg; replace x00 := hg.cell x00 (by simp); replace x01 := hg.cell x01 (by simp); replace x10 := hg.cell x10 (by simp); replace x11 := hg.cell x11 (by simp); replace x20 := hg.cell x20 (by simp); replace x21 := hg.cell x21 (by simp); replace hW := grown_trans hW hg; clear hg)
        | (go_at_call 43; (with_reducible refine (intSign_any hB (by omega)).mono ?_); rintro e w15 ⟨rfl, hg⟩; replace hA := hA.keep hg; replace hB := hB.keep hg; replace hC := hC.keep hg; replace d1 := d1.keep hg; replace a1 := a1.keep hg; replace a2 := a2.keep hg; replace m1 := m1.keep hg; replace m2 := m2.keep hg; replace m3 := m3.keep hg; replace x00 := hg.cell x00 (by simp); replace x01 := hg.cell x01 (by simp); replace x10 := hg.cell x10 (by simp); replace x11 := hg.cell x11 (by simp); replace x20 := hg.cell x20 (by simp); replace x21 := hg.cell x21 (by simp); replace hW := grown_trans hW hg; clear hg)
        | (go_at_call 37; (with_reducible refine (alive2 _).mono ?_); rintro e w16 ⟨rfl, hg⟩; replace hA := hA.keep hg; replace hB := hB.keep hg; replace hC := hC.keep hg; replace d1 := d1.keep hg; replace a1 := a1.keep hg; replace a2 := a2.keep hg; replace m1 := m1.keep hg; replace m2 := m2.keep hg; replace m3 := m3.keep hg; replace x00 := hg.cell x00 (by simp); replace x01 := hg.cell x01 (by simp); replace x10 := hg.cell x10 (by simp); replace x11 := hg.cell x11 (by simp); replace x20 := hg.cell x20 (by simp); replace x21 := hg.cell x21 (by simp); replace hW := grown_trans hW hg; clear hg))
    go_wp2_with fail
    go_ret
    exact ⟨rfl, hW⟩
  · rw [decide_eq_false h24] at HS
    go_enter Try.func11, Try.ntmps11
    go_wp2_with fail
    refine HS.out.mono ?_
    rintro e w0 ⟨rfl, hg⟩
    replace hW := grown_trans hW3 hg
    go_wp2_with fail
    refine (alive2 _).mono ?_
    rintro e w1 ⟨rfl, hg⟩
    go_wp2_with fail
    go_ret
    exact ⟨rfl, grown_trans hW hg⟩

set_option maxRecDepth 100000 in
theorem integerOrder_lifted (os : Os) (started : os.Started) (H : Type) (enc : TypeId × Value → H) :
    ReturnsInHanded {} Try.checked os 11 .any (Rows.integerOrderSpec.pre6 enc Try.prog Try.f11 Rows.integerOrderRow.domain false) (Rows.integerOrderSpec.post enc Try.prog Try.f11 false true false false) := by
  refine returnsInHanded_of_change (C := Try.checked) own1 started (by kernel_rfl) Try.func11
    (ChangeSpec.witness6 (enc := enc) (C := Try.checked) false ⟨#[], #[.agg #[.bool false, .slice none 0 0], .agg #[.bool false, .slice none 0 0], .agg #[.bool false, .slice none 0 0]], []⟩ 8 (by kernel_rfl) (by kernel_rfl) (by kernel_rfl) (by kernel_rfl)) ?_
  intro W base args ds gs before hval0 hW hcnd _
  have hval : ∀ (j : Nat) t v, Try.f11.params[j]? = some t → args[j]? = some v → Value.okWide Try.prog W .any base t v := hval0
  have hW' := hW
  obtain ⟨p, q, hA0, hV, rfl, hfz, hnd⟩ := hW
  have hA : DataW.TrodAll enc Try.prog W 0 (fun _ => true) true Try.f11.params.toList args.toList ds p := hA0
  rw [Try.params11] at hA hval
  obtain ⟨v0, v1, v2, d0, d1, d2, p0, p1, p2, rfl, rfl, rfl, h0, h1, h2⟩ := trodAll_three hA
  obtain ⟨rfl, rfl⟩ := trodVars_none hV
  have hlt : ∀ x ∈ p0 ++ (p1 ++ (p2)), x.block < W.heap.size := fun x hx => hW'.lt x (by simpa using hx)
  obtain ⟨g0, a, n, c, xs, rfl, hr0, hx0⟩ := open_Int (hval 0 47 v0 rfl rfl) h0
  obtain ⟨g1, b, m, d, ys, rfl, hr1, hx1⟩ := open_Int (hval 1 47 v1 rfl rfl) h1
  obtain ⟨g2, r, l, k, zs, rfl, hr2, hx2⟩ := open_Int (hval 2 47 v2 rfl rfl) h2
  refine (integerOrder_walk g0 g1 g2 a b r n c m d l k _ _ _ W (IsZ.of g0 hr0 hx0) (IsZ.of g1 hr1 hx1) (IsZ.of g2 hr2 hx2)).mono fun e W' ⟨he, hg⟩ => ?_
  subst he
  have hB := grown_below hg
  exact ⟨_, rfl, _, _, _, [], _, [], hW', trodAll_mk1 (shut_bool Try.underlying4 true),
    trodAll_mk3 (Below.trod laidOut1 readInt rowInt h0 hB fun x hx => hlt x (by simp [hx])) (Below.trod laidOut1 readInt rowInt h1 hB fun x hx => hlt x (by simp [hx])) (Below.trod laidOut1 readInt rowInt h2 hB fun x hx => hlt x (by simp [hx])), rfl, hB.frame _, fun h => by cases h⟩

theorem integerOrder_holds : Rows.IntegerOrderSaid :=
  OpenClaim.holds_of_wide 11 Try.f11 rfl rfl rfl rfl rfl rfl rfl ⟨rfl, rfl, rfl, rfl, rfl⟩ rfl rfl rfl rfl rfl (by kernel_rfl) Try.func11 (by kernel_rfl)
    (of_decide_eq_true (by kernel_rfl)) (by unfold Func.isWrapper; first | (rw [if_pos (by decide +kernel)]; kernel_rfl) | (rw [if_neg (by decide +kernel)]; exact ⟨rfl, rfl⟩))
    (fun os started H enc _ => integerOrder_lifted os started H enc)

end Go.Proofs.Ytfoljdondkdilaa
