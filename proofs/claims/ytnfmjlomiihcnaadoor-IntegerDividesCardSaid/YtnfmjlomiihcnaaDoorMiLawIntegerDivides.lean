/-
  Whatever the arguments are, the Go function IntegerDivides returns true and leaves them as they are. Condition: the table deBruijn64tab of package math/bits holds what the program's text lays (the card ties it).
-/
import Derived.Test.YtnfmjlomiihcnaaDoorMi10
import Derived.Deep.RegionHeld3
set_option linter.unusedVariables false
set_option linter.unusedSimpArgs false
namespace Go.Proofs.YtnfmjlomiihcnaaDoor
open Go.ChangeShapes Go.WideShapes Go.ChangeAt Go.RowKit Nm
open Go

theorem small2_three (ga gb gc : Bool) (a b r : Option Addr) (n c m d l k : Nat) (w : World) (G : Nat) (hG : G = w.heap.size) :
    Calls Tryd.prog 27 #[.slice (some ⟨G, 0, none⟩) 3 3] (w.alloc (.cells #[.bool ga, .slice a n c, .bool gb, .slice b m d, .bool gc, .slice r l k] 43)) fun e w' =>
      e = .returned (.bool (decide (n ≤ 24 ∧ m ≤ 24 ∧ l ≤ 24))) ∧ w.grownBy w' none := by
  subst hG
  have := small2_any w.heap.size 3 [(a, n, c), (b, m, d), (r, l, k)] (w.alloc (.cells #[.bool ga, .slice a n c, .bool gb, .slice b m d, .bool gc, .slice r l k] 43)) (by simp) (fun j hj => by
    match j, hj with
    | 0, _ => simp
    | 1, _ => simp
    | 2, _ => simp)
  refine this.mono fun e w' ⟨h1, h2⟩ => ⟨by simpa using h1, h2 ▸ World.grownBy_alloc w _ none⟩

theorem small2_two (ga gb : Bool) (a b : Option Addr) (n c m d : Nat) (w : World) (G : Nat) (hG : G = w.heap.size) :
    Calls Tryd.prog 27 #[.slice (some ⟨G, 0, none⟩) 2 2] (w.alloc (.cells #[.bool ga, .slice a n c, .bool gb, .slice b m d] 43)) fun e w' =>
      e = .returned (.bool (decide (n ≤ 24 ∧ m ≤ 24))) ∧ w.grownBy w' none := by
  subst hG
  have := small2_any w.heap.size 2 [(a, n, c), (b, m, d)] (w.alloc (.cells #[.bool ga, .slice a n c, .bool gb, .slice b m d] 43)) (by simp) (fun j hj => by
    match j, hj with
    | 0, _ => simp
    | 1, _ => simp)
  refine this.mono fun e w' ⟨h1, h2⟩ => ⟨by simpa using h1, h2 ▸ World.grownBy_alloc w _ none⟩

theorem small2_one (ga : Bool) (a : Option Addr) (n c : Nat) (w : World) (G : Nat) (hG : G = w.heap.size) :
    Calls Tryd.prog 27 #[.slice (some ⟨G, 0, none⟩) 1 1] (w.alloc (.cells #[.bool ga, .slice a n c] 43)) fun e w' =>
      e = .returned (.bool (decide (n ≤ 24))) ∧ w.grownBy w' none := by
  subst hG
  have := small2_any w.heap.size 1 [(a, n, c)] (w.alloc (.cells #[.bool ga, .slice a n c] 43)) (by simp) (fun j hj => by
    match j, hj with
    | 0, _ => simp)
  refine this.mono fun e w' ⟨h1, h2⟩ => ⟨by simpa using h1, h2 ▸ World.grownBy_alloc w _ none⟩

theorem isI_nat {w : World} {p : Option Addr} {n c N : Nat} (h : IsC w p n c N) : IsI w false p n c (N : Int) := ⟨by simpa using h, by simp⟩
theorem isI_nil (w : World) : IsI w false none 0 0 0 := ⟨IsC.nil w, by simp⟩
theorem natDivMod_p {w : World} {p q : Option Addr} {n m c d N M : Nat} (hA : IsN w p n c N) (hB : IsN w q m d M) (hn : n ≤ 800000) (hm : m ≤ 800000) (hpos : 0 < M) :
    Calls Tryd.prog 12 #[.slice p n c, .slice q m d] w (DmPost w N M) := by
  obtain ⟨L, h1, h2, rfl⟩ := hA
  obtain ⟨K, k1, k2, rfl⟩ := hB
  exact natDivMod_any p q n m c d L K w h1 k1 h2 k2 hn hm hpos
theorem Tb.keep' {w w' : World} (h : Tb w) (hg : w.grownBy w' none) : Tb w' := h.keep hg
theorem two_new (w : World) (T : TypeId) (g h : Bool) (p q : Option Addr) (n c m d : Nat) :
    ((w.alloc (.cells #[.bool g, .slice p n c] T)).alloc (.cells #[.bool h, .slice q m d] T)).cell? ⟨w.heap.size, 0, none⟩ = some (.bool g) ∧
    ((w.alloc (.cells #[.bool g, .slice p n c] T)).alloc (.cells #[.bool h, .slice q m d] T)).cell? ⟨w.heap.size, 1, none⟩ = some (.slice p n c) ∧
    ((w.alloc (.cells #[.bool g, .slice p n c] T)).alloc (.cells #[.bool h, .slice q m d] T)).cell? ⟨w.heap.size + 1, 0, none⟩ = some (.bool h) ∧
    ((w.alloc (.cells #[.bool g, .slice p n c] T)).alloc (.cells #[.bool h, .slice q m d] T)).cell? ⟨w.heap.size + 1, 1, none⟩ = some (.slice q m d) ∧
    w.grownBy ((w.alloc (.cells #[.bool g, .slice p n c] T)).alloc (.cells #[.bool h, .slice q m d] T)) none := by
  have h1 : (w.alloc (.cells #[.bool g, .slice p n c] T)).heap[w.heap.size]? = some (.cells #[.bool g, .slice p n c] T (0, 0)) := heap_alloc_new w _
  have h2 : ((w.alloc (.cells #[.bool g, .slice p n c] T)).alloc (.cells #[.bool h, .slice q m d] T)).heap[w.heap.size + 1]? = some (.cells #[.bool h, .slice q m d] T (0, 0)) := by
    have := heap_alloc_new (w.alloc (.cells #[.bool g, .slice p n c] T)) (.cells #[.bool h, .slice q m d] T)
    simpa using this
  have hg2 := World.grownBy_alloc (w.alloc (.cells #[.bool g, .slice p n c] T)) (.cells #[.bool h, .slice q m d] T) none
  have h3 := (hg2.block w.heap.size (by simp) (by simp)).trans h1
  refine ⟨?_, ?_, ?_, ?_, grown_trans (World.grownBy_alloc w _ none) hg2⟩
  · rw [cell_of_row _ _ 0 _ _ _ h3]; rfl
  · rw [cell_of_row _ _ 1 _ _ _ h3]; rfl
  · rw [cell_of_row _ _ 0 _ _ _ h2]; rfl
  · rw [cell_of_row _ _ 1 _ _ _ h2]; rfl

set_option maxRecDepth 100000 in
set_option maxHeartbeats 8000000 in
theorem integerDivides_walk (ga gb : Bool) (a b : Option Addr) (n c m d : Nat) (A B : Int) (w : World) (T : Tb w) (hA : IsZ w ga a n c A) (hB : IsZ w gb b m d B) :
    Calls Tryd.prog 7 #[.agg #[.bool ga, .slice a n c], .agg #[.bool gb, .slice b m d]] w fun e w' => e = .returned (.bool true) ∧ w.grownBy w' none := by
  have hW3 := grown_trans (World.grownBy_alloc w (.cells #[.bool ga, .slice a n c] 43) none) (World.grownBy_alloc _ (.cells #[.bool gb, .slice b m d] 43) none)
  have HS := hid (small2_two ga gb a b n c m d ((w.alloc (.cells #[.bool ga, .slice a n c] 43)).alloc (.cells #[.bool gb, .slice b m d] 43)) (w.heap.size + 1 + 1) (by simp))
  by_cases h24 : n ≤ 24 ∧ m ≤ 24
  rotate_left
  · rw [decide_eq_false h24] at HS
    go_enter Tryd.func7, Tryd.ntmps7
    go_wp2_with fail
    refine HS.out.mono ?_
    rintro e w0 ⟨rfl, hg⟩
    replace hW := grown_trans hW3 hg
    go_wp2_with fail
    refine (alive2 _).mono ?_
    rintro e w1 ⟨rfl, hg⟩
    go_wp2_with fail
    go_ret
    exact ⟨rfl, grown_trans hW hg⟩
  rw [decide_eq_true h24] at HS
  obtain ⟨hn, hm⟩ := h24
  rcases Nat.eq_zero_or_pos B.natAbs with h0 | h0
  · go_enter Tryd.func7, Tryd.ntmps7
    go_wp2_with fail
    refine HS.out.mono ?_
    rintro e w0 ⟨rfl, hg⟩
    have x00 : w0.cell? ⟨w.heap.size, 0, none⟩ = some (.bool ga) := hg.cell (by simp [go_sem, World.cell?_alloc_past]) (by simp)
    have x01 : w0.cell? ⟨w.heap.size, 1, none⟩ = some (.slice a n c) := hg.cell (by simp [go_sem, World.cell?_alloc_past]) (by simp)
    have x10 : w0.cell? ⟨w.heap.size + 1, 0, none⟩ = some (.bool gb) := hg.cell (by simp [go_sem, World.cell?_alloc_past]) (by simp)
    have x11 : w0.cell? ⟨w.heap.size + 1, 1, none⟩ = some (.slice b m d) := hg.cell (by simp [go_sem, World.cell?_alloc_past]) (by simp)
    replace hg := grown_trans hW3 hg
    replace hA := hA.keep hg; replace hB := hB.keep hg; replace T := T.keep hg
    have hW := hg
    clear hg
    have hAn : IsN w0 a n c A.natAbs := hA.1
    have hBn : IsN w0 b m d B.natAbs := hB.1
    have hB0 : IsN w0 b m d 0 := h0 ▸ hB.1
    go_wp2_with fail
    refine (intDivMod_e hA.1 hB0 (by omega) (by omega)).mono ?_
    rintro e w1 ⟨rfl, hg⟩
    replace hA := hA.keep hg; replace hB := hB.keep hg; replace T := T.keep hg; replace hAn := hAn.keep hg
    replace hBn := hBn.keep hg; replace hB0 := hB0.keep hg; replace x00 := hg.cell x00 (by simp); replace x01 := hg.cell x01 (by simp)
    replace x10 := hg.cell x10 (by simp); replace x11 := hg.cell x11 (by simp)
    replace hW := grown_trans hW hg
    clear hg
    obtain ⟨y10, y11, z10, z11, hg⟩ := two_new w1 43 false false none none 0 0 0 0
    replace hA := hA.keep hg; replace hB := hB.keep hg; replace T := T.keep hg; replace hAn := hAn.keep hg
    replace hBn := hBn.keep hg; replace hB0 := hB0.keep hg; replace x00 := hg.cell x00 (by simp); replace x01 := hg.cell x01 (by simp)
    replace x10 := hg.cell x10 (by simp); replace x11 := hg.cell x11 (by simp)
    replace hW := grown_trans hW hg
    clear hg
    go_wp2_with fail
    generalize ((w1.alloc (.cells #[.bool false, .slice none 0 0] 43)).alloc (.cells #[.bool false, .slice none 0 0] 43)) = v1 at *
    go_wp2_with fail
    refine (rDivMod_e hA.1 hB0 (by omega) (by omega)).mono ?_
    rintro e w2 ⟨rfl, hg⟩
    replace hA := hA.keep hg; replace hB := hB.keep hg; replace T := T.keep hg; replace hAn := hAn.keep hg
    replace hBn := hBn.keep hg; replace hB0 := hB0.keep hg; replace x00 := hg.cell x00 (by simp); replace x01 := hg.cell x01 (by simp)
    replace x10 := hg.cell x10 (by simp); replace x11 := hg.cell x11 (by simp); replace y10 := hg.cell y10 (by simp); replace y11 := hg.cell y11 (by simp)
    replace z10 := hg.cell z10 (by simp); replace z11 := hg.cell z11 (by simp)
    replace hW := grown_trans hW hg
    clear hg
    obtain ⟨y20, y21, z20, z21, hg⟩ := two_new w2 43 false false none none 0 0 0 0
    replace hA := hA.keep hg; replace hB := hB.keep hg; replace T := T.keep hg; replace hAn := hAn.keep hg
    replace hBn := hBn.keep hg; replace hB0 := hB0.keep hg; replace x00 := hg.cell x00 (by simp); replace x01 := hg.cell x01 (by simp)
    replace x10 := hg.cell x10 (by simp); replace x11 := hg.cell x11 (by simp); replace y10 := hg.cell y10 (by simp); replace y11 := hg.cell y11 (by simp)
    replace z10 := hg.cell z10 (by simp); replace z11 := hg.cell z11 (by simp)
    replace hW := grown_trans hW hg
    clear hg
    go_wp2_with fail
    generalize ((w2.alloc (.cells #[.bool false, .slice none 0 0] 43)).alloc (.cells #[.bool false, .slice none 0 0] 43)) = v2 at *
    have hg := grown_drew v2 none
    replace hA := hA.keep hg; replace hB := hB.keep hg; replace T := T.keep hg; replace hAn := hAn.keep hg
    replace hBn := hBn.keep hg; replace hB0 := hB0.keep hg; replace x00 := hg.cell x00 (by simp); replace x01 := hg.cell x01 (by simp)
    replace x10 := hg.cell x10 (by simp); replace x11 := hg.cell x11 (by simp); replace y10 := hg.cell y10 (by simp); replace y11 := hg.cell y11 (by simp)
    replace z10 := hg.cell z10 (by simp); replace z11 := hg.cell z11 (by simp); replace y20 := hg.cell y20 (by simp); replace y21 := hg.cell y21 (by simp)
    replace z20 := hg.cell z20 (by simp); replace z21 := hg.cell z21 (by simp)
    replace hW := grown_trans hW hg
    clear hg
    go_region_held3 (fun w' => w'.cell? ⟨w.heap.size, 0, none⟩ = some (.bool ga) ∧ w'.cell? ⟨w.heap.size, 1, none⟩ = some (.slice a n c) ∧ w'.cell? ⟨w.heap.size + 1, 0, none⟩ = some (.bool gb) ∧ w'.cell? ⟨w.heap.size + 1, 1, none⟩ = some (.slice b m d) ∧ w'.cell? ⟨w1.heap.size, 0, none⟩ = some (.bool false) ∧ w'.cell? ⟨w1.heap.size, 1, none⟩ = some (.slice none 0 0) ∧ w'.cell? ⟨w1.heap.size + 1, 0, none⟩ = some (.bool false) ∧ w'.cell? ⟨w1.heap.size + 1, 1, none⟩ = some (.slice none 0 0) ∧ w'.cell? ⟨w2.heap.size, 0, none⟩ = some (.bool false) ∧ w'.cell? ⟨w2.heap.size, 1, none⟩ = some (.slice none 0 0) ∧ w'.cell? ⟨w2.heap.size + 1, 0, none⟩ = some (.bool false) ∧ w'.cell? ⟨w2.heap.size + 1, 1, none⟩ = some (.slice none 0 0)) (((try dsimp only) <;> (repeat' apply And.intro) <;> (repeat' (first | assumption | refine (World.grownBy_alloc _ _ none).cell ?_ (by simp) | refine (grown_drew _ none).cell ?_ (by simp) | refine (grown_setCell _ _ _).cell ?_ (by simp; omega)))))
      (first
        | (go_at_call 31; (with_reducible refine (same2_any (isI_nil _) (isI_nil _) rfl).mono ?_); rintro e w11 ⟨rfl, hg⟩; replace hA := hA.keep hg; replace hB := hB.keep hg; replace T := T.keep hg; replace hAn := hAn.keep hg; replace hBn := hBn.keep hg; replace hB0 := hB0.keep hg; replace x00 := hg.cell x00 (by simp); replace x01 := hg.cell x01 (by simp); replace x10 := hg.cell x10 (by simp); replace x11 := hg.cell x11 (by simp); replace y10 := hg.cell y10 (by simp); replace y11 := hg.cell y11 (by simp); replace z10 := hg.cell z10 (by simp); replace z11 := hg.cell z11 (by simp); replace y20 := hg.cell y20 (by simp); replace y21 := hg.cell y21 (by simp); replace z20 := hg.cell z20 (by simp); replace z21 := hg.cell z21 (by simp); replace hW := grown_trans hW hg; clear hg)
        | (go_at_call 31; (with_reducible refine (same2_any (isI_nil _) (isI_nil _) rfl).mono ?_); rintro e w12 ⟨rfl, hg⟩; replace hA := hA.keep hg; replace hB := hB.keep hg; replace T := T.keep hg; replace hAn := hAn.keep hg; replace hBn := hBn.keep hg; replace hB0 := hB0.keep hg; replace x00 := hg.cell x00 (by simp); replace x01 := hg.cell x01 (by simp); replace x10 := hg.cell x10 (by simp); replace x11 := hg.cell x11 (by simp); replace y10 := hg.cell y10 (by simp); replace y11 := hg.cell y11 (by simp); replace z10 := hg.cell z10 (by simp); replace z11 := hg.cell z11 (by simp); replace y20 := hg.cell y20 (by simp); replace y21 := hg.cell y21 (by simp); replace z20 := hg.cell z20 (by simp); replace z21 := hg.cell z21 (by simp); replace hW := grown_trans hW hg; clear hg)
        | (go_at_call 32; (with_reducible refine (intGcd_any T hAn hBn (by omega) (by omega)).mono ?_); rintro e w13 ⟨p13, n13, c13, rfl, gg1, hn13, hg⟩; replace hA := hA.keep hg; replace hB := hB.keep hg; replace T := T.keep hg; replace hAn := hAn.keep hg; replace hBn := hBn.keep hg; replace hB0 := hB0.keep hg; replace x00 := hg.cell x00 (by simp); replace x01 := hg.cell x01 (by simp); replace x10 := hg.cell x10 (by simp); replace x11 := hg.cell x11 (by simp); replace y10 := hg.cell y10 (by simp); replace y11 := hg.cell y11 (by simp); replace z10 := hg.cell z10 (by simp); replace z11 := hg.cell z11 (by simp); replace y20 := hg.cell y20 (by simp); replace y21 := hg.cell y21 (by simp); replace z20 := hg.cell z20 (by simp); replace z21 := hg.cell z21 (by simp); replace hW := grown_trans hW hg; clear hg)
        | (go_at_call 33; (with_reducible refine (rGcdI_any T hAn hBn (by omega) (by omega)).mono ?_); rintro e w14 ⟨p14, n14, c14, rfl, gg2, hn14, hg⟩; replace hA := hA.keep hg; replace hB := hB.keep hg; replace T := T.keep hg; replace hAn := hAn.keep hg; replace hBn := hBn.keep hg; replace hB0 := hB0.keep hg; replace gg1 := gg1.keep hg; replace x00 := hg.cell x00 (by simp); replace x01 := hg.cell x01 (by simp); replace x10 := hg.cell x10 (by simp); replace x11 := hg.cell x11 (by simp); replace y10 := hg.cell y10 (by simp); replace y11 := hg.cell y11 (by simp); replace z10 := hg.cell z10 (by simp); replace z11 := hg.cell z11 (by simp); replace y20 := hg.cell y20 (by simp); replace y21 := hg.cell y21 (by simp); replace z20 := hg.cell z20 (by simp); replace z21 := hg.cell z21 (by simp); replace hW := grown_trans hW hg; clear hg)
        | (go_at_call 31; (with_reducible refine (same2_any (isI_nat gg1) (isI_nat gg2) rfl).mono ?_); rintro e w15 ⟨rfl, hg⟩; replace hA := hA.keep hg; replace hB := hB.keep hg; replace T := T.keep hg; replace hAn := hAn.keep hg; replace hBn := hBn.keep hg; replace hB0 := hB0.keep hg; replace gg1 := gg1.keep hg; replace gg2 := gg2.keep hg; replace x00 := hg.cell x00 (by simp); replace x01 := hg.cell x01 (by simp); replace x10 := hg.cell x10 (by simp); replace x11 := hg.cell x11 (by simp); replace y10 := hg.cell y10 (by simp); replace y11 := hg.cell y11 (by simp); replace z10 := hg.cell z10 (by simp); replace z11 := hg.cell z11 (by simp); replace y20 := hg.cell y20 (by simp); replace y21 := hg.cell y21 (by simp); replace z20 := hg.cell z20 (by simp); replace z21 := hg.cell z21 (by simp); replace hW := grown_trans hW hg; clear hg)
        | (go_at_call 28; (with_reducible refine (alive2 _).mono ?_); rintro e w16 ⟨rfl, hg⟩; replace hA := hA.keep hg; replace hB := hB.keep hg; replace T := T.keep hg; replace hAn := hAn.keep hg; replace hBn := hBn.keep hg; replace hB0 := hB0.keep hg; replace gg1 := gg1.keep hg; replace gg2 := gg2.keep hg; replace x00 := hg.cell x00 (by simp); replace x01 := hg.cell x01 (by simp); replace x10 := hg.cell x10 (by simp); replace x11 := hg.cell x11 (by simp); replace y10 := hg.cell y10 (by simp); replace y11 := hg.cell y11 (by simp); replace z10 := hg.cell z10 (by simp); replace z11 := hg.cell z11 (by simp); replace y20 := hg.cell y20 (by simp); replace y21 := hg.cell y21 (by simp); replace z20 := hg.cell z20 (by simp); replace z21 := hg.cell z21 (by simp); replace hW := grown_trans hW hg; clear hg))
    go_wp2_with fail
    go_ret
    exact ⟨rfl, hW⟩
  · go_enter Tryd.func7, Tryd.ntmps7
    go_wp2_with fail
    refine HS.out.mono ?_
    rintro e w0 ⟨rfl, hg⟩
    have x00 : w0.cell? ⟨w.heap.size, 0, none⟩ = some (.bool ga) := hg.cell (by simp [go_sem, World.cell?_alloc_past]) (by simp)
    have x01 : w0.cell? ⟨w.heap.size, 1, none⟩ = some (.slice a n c) := hg.cell (by simp [go_sem, World.cell?_alloc_past]) (by simp)
    have x10 : w0.cell? ⟨w.heap.size + 1, 0, none⟩ = some (.bool gb) := hg.cell (by simp [go_sem, World.cell?_alloc_past]) (by simp)
    have x11 : w0.cell? ⟨w.heap.size + 1, 1, none⟩ = some (.slice b m d) := hg.cell (by simp [go_sem, World.cell?_alloc_past]) (by simp)
    replace hg := grown_trans hW3 hg
    replace hA := hA.keep hg; replace hB := hB.keep hg; replace T := T.keep hg
    have hW := hg
    clear hg
    have hAn : IsN w0 a n c A.natAbs := hA.1
    have hBn : IsN w0 b m d B.natAbs := hB.1
    go_wp2_with fail
    refine (intDivMod_any hA.1 hB.1 h0 (by omega) (by omega) (fun W hg => natDivMod_p (hA.1.keep hg) (hB.1.keep hg) (by omega) (by omega) h0)).mono ?_
    rintro e w1 ⟨gq1, pq1, nq1, cq1, gr1, pr1, nr1, cr1, rfl, q1, r1, hnq1, hnr1, hg⟩
    replace hA := hA.keep hg; replace hB := hB.keep hg; replace T := T.keep hg; replace hAn := hAn.keep hg
    replace hBn := hBn.keep hg; replace x00 := hg.cell x00 (by simp); replace x01 := hg.cell x01 (by simp); replace x10 := hg.cell x10 (by simp)
    replace x11 := hg.cell x11 (by simp)
    replace hW := grown_trans hW hg
    clear hg
    obtain ⟨y10, y11, z10, z11, hg⟩ := two_new w1 43 gq1 gr1 pq1 pr1 nq1 cq1 nr1 cr1
    replace hA := hA.keep hg; replace hB := hB.keep hg; replace T := T.keep hg; replace hAn := hAn.keep hg
    replace hBn := hBn.keep hg; replace q1 := q1.keep hg; replace r1 := r1.keep hg; replace x00 := hg.cell x00 (by simp)
    replace x01 := hg.cell x01 (by simp); replace x10 := hg.cell x10 (by simp); replace x11 := hg.cell x11 (by simp)
    replace hW := grown_trans hW hg
    clear hg
    go_wp2_with fail
    generalize ((w1.alloc (.cells #[.bool gq1, .slice pq1 nq1 cq1] 43)).alloc (.cells #[.bool gr1, .slice pr1 nr1 cr1] 43)) = v1 at *
    go_wp2_with fail
    refine (rDivMod_any hA.1 hB.1 h0 (by omega) (by omega)).mono ?_
    rintro e w2 ⟨gq2, pq2, nq2, cq2, gr2, pr2, nr2, cr2, rfl, q2, r2, hnq2, hnr2, hg⟩
    replace hA := hA.keep hg; replace hB := hB.keep hg; replace T := T.keep hg; replace hAn := hAn.keep hg
    replace hBn := hBn.keep hg; replace q1 := q1.keep hg; replace r1 := r1.keep hg; replace x00 := hg.cell x00 (by simp)
    replace x01 := hg.cell x01 (by simp); replace x10 := hg.cell x10 (by simp); replace x11 := hg.cell x11 (by simp); replace y10 := hg.cell y10 (by simp)
    replace y11 := hg.cell y11 (by simp); replace z10 := hg.cell z10 (by simp); replace z11 := hg.cell z11 (by simp)
    replace hW := grown_trans hW hg
    clear hg
    obtain ⟨y20, y21, z20, z21, hg⟩ := two_new w2 43 gq2 gr2 pq2 pr2 nq2 cq2 nr2 cr2
    replace hA := hA.keep hg; replace hB := hB.keep hg; replace T := T.keep hg; replace hAn := hAn.keep hg
    replace hBn := hBn.keep hg; replace q1 := q1.keep hg; replace r1 := r1.keep hg; replace q2 := q2.keep hg
    replace r2 := r2.keep hg; replace x00 := hg.cell x00 (by simp); replace x01 := hg.cell x01 (by simp); replace x10 := hg.cell x10 (by simp)
    replace x11 := hg.cell x11 (by simp); replace y10 := hg.cell y10 (by simp); replace y11 := hg.cell y11 (by simp); replace z10 := hg.cell z10 (by simp)
    replace z11 := hg.cell z11 (by simp)
    replace hW := grown_trans hW hg
    clear hg
    go_wp2_with fail
    generalize ((w2.alloc (.cells #[.bool gq2, .slice pq2 nq2 cq2] 43)).alloc (.cells #[.bool gr2, .slice pr2 nr2 cr2] 43)) = v2 at *
    have hg := grown_drew v2 none
    replace hA := hA.keep hg; replace hB := hB.keep hg; replace T := T.keep hg; replace hAn := hAn.keep hg
    replace hBn := hBn.keep hg; replace q1 := q1.keep hg; replace r1 := r1.keep hg; replace q2 := q2.keep hg
    replace r2 := r2.keep hg; replace x00 := hg.cell x00 (by simp); replace x01 := hg.cell x01 (by simp); replace x10 := hg.cell x10 (by simp)
    replace x11 := hg.cell x11 (by simp); replace y10 := hg.cell y10 (by simp); replace y11 := hg.cell y11 (by simp); replace z10 := hg.cell z10 (by simp)
    replace z11 := hg.cell z11 (by simp); replace y20 := hg.cell y20 (by simp); replace y21 := hg.cell y21 (by simp); replace z20 := hg.cell z20 (by simp)
    replace z21 := hg.cell z21 (by simp)
    replace hW := grown_trans hW hg
    clear hg
    go_region_held3 (fun w' => w'.cell? ⟨w.heap.size, 0, none⟩ = some (.bool ga) ∧ w'.cell? ⟨w.heap.size, 1, none⟩ = some (.slice a n c) ∧ w'.cell? ⟨w.heap.size + 1, 0, none⟩ = some (.bool gb) ∧ w'.cell? ⟨w.heap.size + 1, 1, none⟩ = some (.slice b m d) ∧ w'.cell? ⟨w1.heap.size, 0, none⟩ = some (.bool gq1) ∧ w'.cell? ⟨w1.heap.size, 1, none⟩ = some (.slice pq1 nq1 cq1) ∧ w'.cell? ⟨w1.heap.size + 1, 0, none⟩ = some (.bool gr1) ∧ w'.cell? ⟨w1.heap.size + 1, 1, none⟩ = some (.slice pr1 nr1 cr1) ∧ w'.cell? ⟨w2.heap.size, 0, none⟩ = some (.bool gq2) ∧ w'.cell? ⟨w2.heap.size, 1, none⟩ = some (.slice pq2 nq2 cq2) ∧ w'.cell? ⟨w2.heap.size + 1, 0, none⟩ = some (.bool gr2) ∧ w'.cell? ⟨w2.heap.size + 1, 1, none⟩ = some (.slice pr2 nr2 cr2)) (((try dsimp only) <;> (repeat' apply And.intro) <;> (repeat' (first | assumption | refine (World.grownBy_alloc _ _ none).cell ?_ (by simp) | refine (grown_drew _ none).cell ?_ (by simp) | refine (grown_setCell _ _ _).cell ?_ (by simp; omega)))))
      (first
        | (go_at_call 31; (with_reducible refine (same2_any q1 q2 rfl).mono ?_); rintro e w11 ⟨rfl, hg⟩; replace hA := hA.keep hg; replace hB := hB.keep hg; replace T := T.keep hg; replace hAn := hAn.keep hg; replace hBn := hBn.keep hg; replace q1 := q1.keep hg; replace r1 := r1.keep hg; replace q2 := q2.keep hg; replace r2 := r2.keep hg; replace x00 := hg.cell x00 (by simp); replace x01 := hg.cell x01 (by simp); replace x10 := hg.cell x10 (by simp); replace x11 := hg.cell x11 (by simp); replace y10 := hg.cell y10 (by simp); replace y11 := hg.cell y11 (by simp); replace z10 := hg.cell z10 (by simp); replace z11 := hg.cell z11 (by simp); replace y20 := hg.cell y20 (by simp); replace y21 := hg.cell y21 (by simp); replace z20 := hg.cell z20 (by simp); replace z21 := hg.cell z21 (by simp); replace hW := grown_trans hW hg; clear hg)
        | (go_at_call 31; (with_reducible refine (same2_any r1 r2 rfl).mono ?_); rintro e w12 ⟨rfl, hg⟩; replace hA := hA.keep hg; replace hB := hB.keep hg; replace T := T.keep hg; replace hAn := hAn.keep hg; replace hBn := hBn.keep hg; replace q1 := q1.keep hg; replace r1 := r1.keep hg; replace q2 := q2.keep hg; replace r2 := r2.keep hg; replace x00 := hg.cell x00 (by simp); replace x01 := hg.cell x01 (by simp); replace x10 := hg.cell x10 (by simp); replace x11 := hg.cell x11 (by simp); replace y10 := hg.cell y10 (by simp); replace y11 := hg.cell y11 (by simp); replace z10 := hg.cell z10 (by simp); replace z11 := hg.cell z11 (by simp); replace y20 := hg.cell y20 (by simp); replace y21 := hg.cell y21 (by simp); replace z20 := hg.cell z20 (by simp); replace z21 := hg.cell z21 (by simp); replace hW := grown_trans hW hg; clear hg)
        | (go_at_call 32; (with_reducible refine (intGcd_any T hAn hBn (by omega) (by omega)).mono ?_); rintro e w13 ⟨p13, n13, c13, rfl, gg1, hn13, hg⟩; replace hA := hA.keep hg; replace hB := hB.keep hg; replace T := T.keep hg; replace hAn := hAn.keep hg; replace hBn := hBn.keep hg; replace q1 := q1.keep hg; replace r1 := r1.keep hg; replace q2 := q2.keep hg; replace r2 := r2.keep hg; replace x00 := hg.cell x00 (by simp); replace x01 := hg.cell x01 (by simp); replace x10 := hg.cell x10 (by simp); replace x11 := hg.cell x11 (by simp); replace y10 := hg.cell y10 (by simp); replace y11 := hg.cell y11 (by simp); replace z10 := hg.cell z10 (by simp); replace z11 := hg.cell z11 (by simp); replace y20 := hg.cell y20 (by simp); replace y21 := hg.cell y21 (by simp); replace z20 := hg.cell z20 (by simp); replace z21 := hg.cell z21 (by simp); replace hW := grown_trans hW hg; clear hg)
        | (go_at_call 33; (with_reducible refine (rGcdI_any T hAn hBn (by omega) (by omega)).mono ?_); rintro e w14 ⟨p14, n14, c14, rfl, gg2, hn14, hg⟩; replace hA := hA.keep hg; replace hB := hB.keep hg; replace T := T.keep hg; replace hAn := hAn.keep hg; replace hBn := hBn.keep hg; replace q1 := q1.keep hg; replace r1 := r1.keep hg; replace q2 := q2.keep hg; replace r2 := r2.keep hg; replace gg1 := gg1.keep hg; replace x00 := hg.cell x00 (by simp); replace x01 := hg.cell x01 (by simp); replace x10 := hg.cell x10 (by simp); replace x11 := hg.cell x11 (by simp); replace y10 := hg.cell y10 (by simp); replace y11 := hg.cell y11 (by simp); replace z10 := hg.cell z10 (by simp); replace z11 := hg.cell z11 (by simp); replace y20 := hg.cell y20 (by simp); replace y21 := hg.cell y21 (by simp); replace z20 := hg.cell z20 (by simp); replace z21 := hg.cell z21 (by simp); replace hW := grown_trans hW hg; clear hg)
        | (go_at_call 31; (with_reducible refine (same2_any (isI_nat gg1) (isI_nat gg2) rfl).mono ?_); rintro e w15 ⟨rfl, hg⟩; replace hA := hA.keep hg; replace hB := hB.keep hg; replace T := T.keep hg; replace hAn := hAn.keep hg; replace hBn := hBn.keep hg; replace q1 := q1.keep hg; replace r1 := r1.keep hg; replace q2 := q2.keep hg; replace r2 := r2.keep hg; replace gg1 := gg1.keep hg; replace gg2 := gg2.keep hg; replace x00 := hg.cell x00 (by simp); replace x01 := hg.cell x01 (by simp); replace x10 := hg.cell x10 (by simp); replace x11 := hg.cell x11 (by simp); replace y10 := hg.cell y10 (by simp); replace y11 := hg.cell y11 (by simp); replace z10 := hg.cell z10 (by simp); replace z11 := hg.cell z11 (by simp); replace y20 := hg.cell y20 (by simp); replace y21 := hg.cell y21 (by simp); replace z20 := hg.cell z20 (by simp); replace z21 := hg.cell z21 (by simp); replace hW := grown_trans hW hg; clear hg)
        | (go_at_call 28; (with_reducible refine (alive2 _).mono ?_); rintro e w16 ⟨rfl, hg⟩; replace hA := hA.keep hg; replace hB := hB.keep hg; replace T := T.keep hg; replace hAn := hAn.keep hg; replace hBn := hBn.keep hg; replace q1 := q1.keep hg; replace r1 := r1.keep hg; replace q2 := q2.keep hg; replace r2 := r2.keep hg; replace gg1 := gg1.keep hg; replace gg2 := gg2.keep hg; replace x00 := hg.cell x00 (by simp); replace x01 := hg.cell x01 (by simp); replace x10 := hg.cell x10 (by simp); replace x11 := hg.cell x11 (by simp); replace y10 := hg.cell y10 (by simp); replace y11 := hg.cell y11 (by simp); replace z10 := hg.cell z10 (by simp); replace z11 := hg.cell z11 (by simp); replace y20 := hg.cell y20 (by simp); replace y21 := hg.cell y21 (by simp); replace z20 := hg.cell z20 (by simp); replace z21 := hg.cell z21 (by simp); replace hW := grown_trans hW hg; clear hg))
    go_wp2_with fail
    go_ret
    exact ⟨rfl, hW⟩

theorem integerDivides_door (os : Os) (args : Array Value) : laidMetH Tryd.prog [("math/bits.deBruijn64tab", Rows.laid_math_bits_deBruijn64tab)] ((World.doorLaid Tryd.prog 400 os).forCall (fun _ _ => 0) ⟨#[], args, []⟩).memory :=
  laidMetH_of_parts3 (fuel := 8) (laidMet_of_run' 8 (by kernel_rfl) (by kernel_rfl)) (by kernel_rfl) (by kernel_rfl)

set_option maxRecDepth 100000 in
theorem integerDivides_lifted (os : Os) (started : os.Started) (H : Type) (enc : TypeId × Value → H) :
    ReturnsInHanded {} Tryd.checked os 7 .any (fun w args => (Rows.integerDividesSpec.pre enc Tryd.prog Tryd.f7 [] false w args ∧ laidMetH Tryd.prog [("math/bits.deBruijn64tab", Rows.laid_math_bits_deBruijn64tab)] w) ∧ sizedMet enc Tryd.prog Tryd.f7 (OpenSpec.ofChange Rows.integerDividesSpec) false w args)
      (Rows.integerDividesSpec.post enc Tryd.prog Tryd.f7 false true false false) := by
  refine returnsInHanded_of_change_and (C := Tryd.checked) (X := fun w _ => laidMetH Tryd.prog [("math/bits.deBruijn64tab", Rows.laid_math_bits_deBruijn64tab)] w) (fun _ _ _ hh h => h.of_heap hh) own1 started (by kernel_rfl) Tryd.func7
    (ChangeSpec.witness_shaped (enc := enc) (C := Tryd.checked) (os := os) (X := fun w _ => laidMetH Tryd.prog [("math/bits.deBruijn64tab", Rows.laid_math_bits_deBruijn64tab)] w) false (World.doorLaid Tryd.prog 400 os) #[.agg #[.bool false, .slice none 0 0], .agg #[.bool false, .slice none 0 0]] 8 rfl (World.shaped_of_RefB (by kernel_rfl) (by kernel_rfl)) (by kernel_rfl) (by kernel_rfl) (by kernel_rfl) (integerDivides_door os _)) ?_
  intro W base args ds gs before hval0 hW _ _ hL _
  have hval : ∀ (j : Nat) t v, Tryd.f7.params[j]? = some t → args[j]? = some v → Value.okWide Tryd.prog W .any base t v := hval0
  have hW' := hW
  obtain ⟨p, q, hA0, hV, rfl, hfz, hnd⟩ := hW
  have hA : DataW.TrodAll enc Tryd.prog W 0 (fun _ => true) true Tryd.f7.params.toList args.toList ds p := hA0
  rw [Tryd.params7] at hA hval
  obtain ⟨v0, v1, d0, d1, p0, p1, rfl, rfl, rfl, h0, h1⟩ := trodAll_two hA
  obtain ⟨rfl, rfl⟩ := trodVars_none hV
  have hlt : ∀ x ∈ p0 ++ (p1), x.block < W.heap.size := fun x hx => hW'.lt x (by simpa using hx)
  obtain ⟨g0, a, n, c, xs, rfl, hr0, hx0⟩ := open_Int (hval 0 43 v0 rfl rfl) h0
  obtain ⟨g1, b, m, d, ys, rfl, hr1, hx1⟩ := open_Int (hval 1 43 v1 rfl rfl) h1
  refine (integerDivides_walk g0 g1 a b n c m d _ _ W (tb_of_laid hL) (IsZ.of g0 hr0 hx0) (IsZ.of g1 hr1 hx1)).mono fun e W' ⟨he, hg⟩ => ?_
  subst he
  have hB := grown_below hg
  exact ⟨_, rfl, _, _, _, [], _, [], hW', trodAll_mk1 (shut_bool Tryd.underlying4 true),
    trodAll_mk2 (Below.trod laidOut1 readInt rowInt h0 hB fun x hx => hlt x (by simp [hx])) (Below.trod laidOut1 readInt rowInt h1 hB fun x hx => hlt x (by simp [hx])), rfl, hB.frame _, fun h => by cases h⟩

theorem integerDivides_holds : Rows.IntegerDividesSaid :=
  OpenClaim.holds_of_wide 7 Tryd.f7 rfl rfl rfl rfl rfl rfl rfl ⟨rfl, rfl, rfl, rfl, rfl⟩ rfl rfl rfl rfl rfl (by kernel_rfl) Tryd.func7 (by kernel_rfl)
    (of_decide_eq_true (by kernel_rfl)) (by unfold Func.isWrapper; first | (rw [if_pos (by decide +kernel)]; kernel_rfl) | (rw [if_neg (by decide +kernel)]; exact ⟨rfl, rfl⟩))
    (fun os started H enc _ => integerDivides_lifted os started H enc)

theorem integerDivides_card : Rows.IntegerDividesCardSaid :=
  Claim7.holds_tied_plain_at .later [] [.data] true _ true
    integerDivides_holds (fun _ h => by cases h) (by kernel_rfl) (fun _ h => by cases h) integerDivides_row_tie rfl ⟨rfl, rfl⟩ (by kernel_rfl) rfl
    (fun f fn hf hfn => by
      obtain rfl : f = 7 := Option.some.inj ((show Tryd.prog.funcNamed "geoprover/geoproverlaw02.IntegerDivides" = some 7 by kernel_rfl).symm.trans hf) |>.symm
      obtain rfl : fn = Tryd.f7 := (Option.some.inj (Tryd.func7.symm.trans hfn)).symm
      exact ⟨by kernel_rfl, fun j t ht => by
        rw [Tryd.params7] at ht
        have hm : t ∈ [43, 43] := by simpa using Array.mem_of_getElem? ht
        have hall : ([43, 43].all fun u => !Tryd.prog.wantsStandIn u) = true := by kernel_rfl
        exact (show Tryd.prog.wantsStandIn t = false by simpa using List.all_eq_true.1 hall t hm)⟩)
    (by kernel_rfl)

end Go.Proofs.YtnfmjlomiihcnaaDoor
