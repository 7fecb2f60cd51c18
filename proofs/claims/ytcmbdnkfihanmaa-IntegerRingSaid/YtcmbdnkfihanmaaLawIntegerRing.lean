import Derived.Test.YtcmbdnkfihanmaaIntOpen
import Derived.Test.YtcmbdnkfihanmaaIntM
import Derived.Test.YtcmbdnkfihanmaaIntN
import Derived.Test.YtcmbdnkfihanmaaIntC
import Derived.Test.YtcmbdnkfihanmaaSmall2
import Derived.Test.YtcmbdnkfihanmaaAlive2
import Derived.Deep.RegionHeld3
import Derived.Deep.DeepCutAuto
set_option linter.unusedVariables false
set_option linter.unusedSimpArgs false
namespace Go.Proofs.Ytcmbdnkfihanmaa
open Go.ChangeShapes Go.WideShapes Go.ChangeAt Go.RowKit Nm

theorem small2_three (ga gb gc : Bool) (a b r : Option Addr) (n c m d l k : Nat) (w : World) (G : Nat) (hG : G = w.heap.size) :
    Calls Try.prog 10 #[.slice (some ⟨G, 0, none⟩) 3 3] (w.alloc (.cells #[.bool ga, .slice a n c, .bool gb, .slice b m d, .bool gc, .slice r l k] 25)) fun e w' =>
      e = .returned (.bool (decide (n ≤ 24 ∧ m ≤ 24 ∧ l ≤ 24))) ∧ w.grownBy w' none := by
  subst hG
  have := small2_any w.heap.size 3 [(a, n, c), (b, m, d), (r, l, k)] (w.alloc (.cells #[.bool ga, .slice a n c, .bool gb, .slice b m d, .bool gc, .slice r l k] 25)) (by simp) (fun j hj => by
    match j, hj with
    | 0, _ => simp
    | 1, _ => simp
    | 2, _ => simp)
  refine this.mono fun e w' ⟨h1, h2⟩ => ⟨by simpa using h1, h2 ▸ World.grownBy_alloc w _ none⟩

theorem small2_two (ga gb : Bool) (a b : Option Addr) (n c m d : Nat) (w : World) (G : Nat) (hG : G = w.heap.size) :
    Calls Try.prog 10 #[.slice (some ⟨G, 0, none⟩) 2 2] (w.alloc (.cells #[.bool ga, .slice a n c, .bool gb, .slice b m d] 25)) fun e w' =>
      e = .returned (.bool (decide (n ≤ 24 ∧ m ≤ 24))) ∧ w.grownBy w' none := by
  subst hG
  have := small2_any w.heap.size 2 [(a, n, c), (b, m, d)] (w.alloc (.cells #[.bool ga, .slice a n c, .bool gb, .slice b m d] 25)) (by simp) (fun j hj => by
    match j, hj with
    | 0, _ => simp
    | 1, _ => simp)
  refine this.mono fun e w' ⟨h1, h2⟩ => ⟨by simpa using h1, h2 ▸ World.grownBy_alloc w _ none⟩

theorem small2_one (ga : Bool) (a : Option Addr) (n c : Nat) (w : World) (G : Nat) (hG : G = w.heap.size) :
    Calls Try.prog 10 #[.slice (some ⟨G, 0, none⟩) 1 1] (w.alloc (.cells #[.bool ga, .slice a n c] 25)) fun e w' =>
      e = .returned (.bool (decide (n ≤ 24))) ∧ w.grownBy w' none := by
  subst hG
  have := small2_any w.heap.size 1 [(a, n, c)] (w.alloc (.cells #[.bool ga, .slice a n c] 25)) (by simp) (fun j hj => by
    match j, hj with
    | 0, _ => simp)
  refine this.mono fun e w' ⟨h1, h2⟩ => ⟨by simpa using h1, h2 ▸ World.grownBy_alloc w _ none⟩
/-- block u is a new struct of the type api.Int -/
def BoxAt (w : World) (u : Nat) : Prop := w.heap[u]? = some (.cells #[.bool false, .slice none 0 0] 25 (0, 0))
theorem BoxAt.new (w : World) : BoxAt (w.alloc (.cells #[.bool false, .slice none 0 0] 25)) w.heap.size := heap_alloc_new w _
theorem BoxAt.new2 (w : World) (o : Obj) : BoxAt ((w.alloc o).alloc (.cells #[.bool false, .slice none 0 0] 25)) (w.heap.size + 1) := by
  have := BoxAt.new (w.alloc o)
  simpa using this
theorem BoxAt.grown {w w' : World} {u : Nat} (h : BoxAt w u) (hg : w.grownBy w' none) : BoxAt w' u := (hg.block u (lt_of_block h) (by simp)).trans h
theorem BoxAt.alloc {w : World} {u : Nat} (h : BoxAt w u) (o : Obj) : BoxAt (w.alloc o) u := h.grown (World.grownBy_alloc w o none)
theorem BoxAt.drew {w : World} {u : Nat} (h : BoxAt w u) : BoxAt w.drew u := h
theorem BoxAt.facts {w : World} {u : Nat} (h : BoxAt w u) : w.cell? ⟨u, 0, none⟩ = some (.bool false) ∧ w.cell? ⟨u, 1, none⟩ = some (.slice none 0 0) ∧ w.frozen? ⟨u, 0, none⟩ = false ∧ w.frozen? ⟨u, 1, none⟩ = false ∧ u < w.heap.size := by
  have k0 := cell_of_row w u 0 _ _ _ h
  have k1 := cell_of_row w u 1 _ _ _ h
  simp at k0 k1
  exact ⟨k0, k1, frozen_of_row w u 0 _ _ h, frozen_of_row w u 1 _ _ h, lt_of_block h⟩

def SumRel (A B : Int) (w0 : World) (s7 s8 : Value) (wx : World) : Prop :=
  ∃ (u v : Nat) (g1 g2 : Bool) (p1 p2 : Option Addr) (n1 c1 n2 c2 : Nat), s7 = .pointer (some ⟨u, 0, none⟩) ∧ s8 = .pointer (some ⟨v, 0, none⟩) ∧ wx.cell? ⟨u, 0, none⟩ = some (.bool g1) ∧ wx.cell? ⟨u, 1, none⟩ = some (.slice p1 n1 c1) ∧ wx.cell? ⟨v, 0, none⟩ = some (.bool g2) ∧ wx.cell? ⟨v, 1, none⟩ = some (.slice p2 n2 c2) ∧ IsI wx g1 p1 n1 c1 (A + B) ∧ IsI wx g2 p2 n2 c2 (A * B) ∧ n1 ≤ 49 ∧ n2 ≤ 48 ∧ w0.grownBy wx none

/-- the block's two cells were written -/
def BoxSet (w w' : World) (u : Nat) (g : Bool) (p : Option Addr) (n c : Nat) : Prop :=
  w.grownBy w' (some u) ∧ w'.heap.size = w.heap.size ∧ w'.cell? ⟨u, 0, none⟩ = some (.bool g) ∧ w'.cell? ⟨u, 1, none⟩ = some (.slice p n c)

theorem box_set {w : World} {u : Nat} (h : BoxAt w u) (g : Bool) (p : Option Addr) (n c : Nat) :
    BoxSet w ((w.setCell ⟨u, 0, none⟩ (.bool g)).setCell ⟨u, 1, none⟩ (.slice p n c)) u g p n c := by
  have hS : w.grownBy ((w.setCell ⟨u, 0, none⟩ (.bool g)).setCell ⟨u, 1, none⟩ (.slice p n c)) (some u) := grown_trans (grown_setCell _ _ _) (grown_setCell _ ⟨u, 1, none⟩ _)
  obtain ⟨a, b, f0, f1, hl⟩ := h.facts
  refine ⟨hS, by simp, ?_, ?_⟩
  · simp [go_sem, a, b, f0, f1]
  · simp [go_sem, a, b, f0, f1]

theorem leaf_alloc {A B : Int} {w0 w2 : World} {g1 g2 : Bool} {p1 p2 : Option Addr} {n1 c1 n2 c2 : Nat} (h1 : IsI w2 g1 p1 n1 c1 (A + B)) (h2 : IsI w2 g2 p2 n2 c2 (A * B)) (b1 : n1 ≤ 49) (b2 : n2 ≤ 48) (hg : w0.grownBy w2 none) :
    SumRel A B w0 (.pointer (some ⟨w2.heap.size, 0, none⟩)) (.pointer (some ⟨w2.heap.size + 1, 0, none⟩)) ((w2.alloc (.cells #[.bool g1, .slice p1 n1 c1] 25)).alloc (.cells #[.bool g2, .slice p2 n2 c2] 25)) := by
  have hA := grown_trans (World.grownBy_alloc w2 (.cells #[.bool g1, .slice p1 n1 c1] 25) none) (World.grownBy_alloc _ (.cells #[.bool g2, .slice p2 n2 c2] 25) none)
  exact ⟨_, _, g1, g2, p1, p2, n1, c1, n2, c2, rfl, rfl, by simp [go_sem], by simp [go_sem], by simp [go_sem], by simp [go_sem], h1.keep hA, h2.keep hA, b1, b2, grown_trans hg hA⟩

theorem leaf_alloc' {A B : Int} {w0 w2 : World} {g1 g2 : Bool} {p1 p2 : Option Addr} {n1 c1 n2 c2 : Nat} (h1 : IsI w2 g1 p1 n1 c1 (A + B)) (h2 : IsI w2 g2 p2 n2 c2 (A * B)) (b1 : n1 ≤ 49) (b2 : n2 ≤ 48) (hg : w0.grownBy w2 none) :
    SumRel A B w0 (.pointer (some ⟨w2.heap.size + 1, 0, none⟩)) (.pointer (some ⟨w2.heap.size, 0, none⟩)) ((w2.alloc (.cells #[.bool g2, .slice p2 n2 c2] 25)).alloc (.cells #[.bool g1, .slice p1 n1 c1] 25)) := by
  have hA := grown_trans (World.grownBy_alloc w2 (.cells #[.bool g2, .slice p2 n2 c2] 25) none) (World.grownBy_alloc _ (.cells #[.bool g1, .slice p1 n1 c1] 25) none)
  exact ⟨_, _, g1, g2, p1, p2, n1, c1, n2, c2, rfl, rfl, by simp [go_sem], by simp [go_sem], by simp [go_sem], by simp [go_sem], h1.keep hA, h2.keep hA, b1, b2, grown_trans hg hA⟩

theorem leaf_set1 {A B : Int} {w0 w2 : World} {g1 g2 : Bool} {p1 p2 : Option Addr} {n1 c1 n2 c2 u : Nat} (h1 : IsI w2 g1 p1 n1 c1 (A + B)) (h2 : IsI w2 g2 p2 n2 c2 (A * B)) (b1 : n1 ≤ 49) (b2 : n2 ≤ 48) (hg : w0.grownBy w2 none) (hb : BoxAt w2 u) (hu : w0.heap.size ≤ u) :
    SumRel A B w0 (.pointer (some ⟨u, 0, none⟩)) (.pointer (some ⟨w2.heap.size, 0, none⟩)) (((w2.setCell ⟨u, 0, none⟩ (.bool g1)).setCell ⟨u, 1, none⟩ (.slice p1 n1 c1)).alloc (.cells #[.bool g2, .slice p2 n2 c2] 25)) := by
  have k := box_set hb g1 p1 n1 c1
  have hG := grown_new hg k.1 (fun g e => by cases e; exact hu)
  have m1 := h1.other hb k.1
  have m2 := h2.other hb k.1
  obtain ⟨hS, hz, k0, k1⟩ := k
  rw [← hz]
  generalize (w2.setCell ⟨u, 0, none⟩ (.bool g1)).setCell ⟨u, 1, none⟩ (.slice p1 n1 c1) = w3 at *
  have hA := World.grownBy_alloc w3 (.cells #[.bool g2, .slice p2 n2 c2] 25) none
  exact ⟨_, _, g1, g2, p1, p2, n1, c1, n2, c2, rfl, rfl, hA.cell k0 (by simp), hA.cell k1 (by simp), by simp [go_sem], by simp [go_sem], m1.keep hA, m2.keep hA, b1, b2, grown_trans hG hA⟩

theorem leaf_set2 {A B : Int} {w0 w2 : World} {g1 g2 : Bool} {p1 p2 : Option Addr} {n1 c1 n2 c2 u : Nat} (h1 : IsI w2 g1 p1 n1 c1 (A + B)) (h2 : IsI w2 g2 p2 n2 c2 (A * B)) (b1 : n1 ≤ 49) (b2 : n2 ≤ 48) (hg : w0.grownBy w2 none) (hb : BoxAt w2 u) (hu : w0.heap.size ≤ u) :
    SumRel A B w0 (.pointer (some ⟨w2.heap.size, 0, none⟩)) (.pointer (some ⟨u, 0, none⟩)) (((w2.setCell ⟨u, 0, none⟩ (.bool g2)).setCell ⟨u, 1, none⟩ (.slice p2 n2 c2)).alloc (.cells #[.bool g1, .slice p1 n1 c1] 25)) := by
  have k := box_set hb g2 p2 n2 c2
  have hG := grown_new hg k.1 (fun g e => by cases e; exact hu)
  have m1 := h1.other hb k.1
  have m2 := h2.other hb k.1
  obtain ⟨hS, hz, k0, k1⟩ := k
  rw [← hz]
  generalize (w2.setCell ⟨u, 0, none⟩ (.bool g2)).setCell ⟨u, 1, none⟩ (.slice p2 n2 c2) = w3 at *
  have hA := World.grownBy_alloc w3 (.cells #[.bool g1, .slice p1 n1 c1] 25) none
  exact ⟨_, _, g1, g2, p1, p2, n1, c1, n2, c2, rfl, rfl, by simp [go_sem], by simp [go_sem], hA.cell k0 (by simp), hA.cell k1 (by simp), m1.keep hA, m2.keep hA, b1, b2, grown_trans hG hA⟩

theorem leaf_sets {A B : Int} {w0 w2 : World} {g1 g2 : Bool} {p1 p2 : Option Addr} {n1 c1 n2 c2 u v : Nat} (h1 : IsI w2 g1 p1 n1 c1 (A + B)) (h2 : IsI w2 g2 p2 n2 c2 (A * B)) (b1 : n1 ≤ 49) (b2 : n2 ≤ 48) (hg : w0.grownBy w2 none) (hb : BoxAt w2 u) (hc : BoxAt w2 v) (hu : w0.heap.size ≤ u) (hv : w0.heap.size ≤ v) (hne : v ≠ u) :
    SumRel A B w0 (.pointer (some ⟨u, 0, none⟩)) (.pointer (some ⟨v, 0, none⟩)) ((((w2.setCell ⟨u, 0, none⟩ (.bool g1)).setCell ⟨u, 1, none⟩ (.slice p1 n1 c1)).setCell ⟨v, 0, none⟩ (.bool g2)).setCell ⟨v, 1, none⟩ (.slice p2 n2 c2)) := by
  have k := box_set hb g1 p1 n1 c1
  have hG := grown_new hg k.1 (fun g e => by cases e; exact hu)
  have m1 := h1.other hb k.1
  have m2 := h2.other hb k.1
  obtain ⟨hS, hz, k0, k1⟩ := k
  have hc3 : BoxAt ((w2.setCell ⟨u, 0, none⟩ (.bool g1)).setCell ⟨u, 1, none⟩ (.slice p1 n1 c1)) v := (hS.block v (lt_of_block hc) (by simpa using hne)).trans hc
  generalize (w2.setCell ⟨u, 0, none⟩ (.bool g1)).setCell ⟨u, 1, none⟩ (.slice p1 n1 c1) = w3 at *
  have l := box_set hc3 g2 p2 n2 c2
  have hG' := grown_new hG l.1 (fun g e => by cases e; exact hv)
  have m1' := m1.other hc3 l.1
  have m2' := m2.other hc3 l.1
  obtain ⟨hS', hz', l0, l1⟩ := l
  exact ⟨_, _, g1, g2, p1, p2, n1, c1, n2, c2, rfl, rfl, hS'.cell k0 (by simpa using Ne.symm hne), hS'.cell k1 (by simpa using Ne.symm hne), l0, l1, m1', m2', b1, b2, hG'⟩


theorem sign_none (A : Int) : cmpI (A + -A) 0 = 0 := by
  have : A + -A = 0 := by omega
  rw [this]; decide

set_option maxRecDepth 100000 in
set_option maxHeartbeats 16000000 in
theorem integerRing_walk (ga gb gc : Bool) (a b r : Option Addr) (n c m d l k : Nat) (A B C : Int) (w : World) (hA : IsZ w ga a n c A) (hB : IsZ w gb b m d B) (hC : IsZ w gc r l k C) :
    Calls Try.prog 3 #[.agg #[.bool ga, .slice a n c], .agg #[.bool gb, .slice b m d], .agg #[.bool gc, .slice r l k]] w fun e w' => e = .returned (.bool true) ∧ w.grownBy w' none := by
  have hW3 := (grown_trans (grown_trans (World.grownBy_alloc w (.cells #[.bool ga, .slice a n c] 25) none) (World.grownBy_alloc _ (.cells #[.bool gb, .slice b m d] 25) none)) (World.grownBy_alloc _ (.cells #[.bool gc, .slice r l k] 25) none))
  have HS := hid (small2_three ga gb gc a b r n c m d l k (((w.alloc (.cells #[.bool ga, .slice a n c] 25)).alloc (.cells #[.bool gb, .slice b m d] 25)).alloc (.cells #[.bool gc, .slice r l k] 25)) (w.heap.size + 1 + 1 + 1) (by simp))
  by_cases h24 : n ≤ 24 ∧ m ≤ 24 ∧ l ≤ 24
  · rw [decide_eq_true h24] at HS
    obtain ⟨hn, hm, hl⟩ := h24
    go_enter Try.func3, Try.ntmps3
    go_upto_region 3 with (go_at_call 10; (with_reducible refine (HS.out).mono ?_); rintro e w0 ⟨rfl, hg⟩)
    have x00 : w0.cell? ⟨w.heap.size, 0, none⟩ = some (.bool ga) := hg.cell (by simp [go_sem, World.cell?_alloc_past]) (by simp)
    have x01 : w0.cell? ⟨w.heap.size, 1, none⟩ = some (.slice a n c) := hg.cell (by simp [go_sem, World.cell?_alloc_past]) (by simp)
    have x10 : w0.cell? ⟨w.heap.size + 1, 0, none⟩ = some (.bool gb) := hg.cell (by simp [go_sem, World.cell?_alloc_past]) (by simp)
    have x11 : w0.cell? ⟨w.heap.size + 1, 1, none⟩ = some (.slice b m d) := hg.cell (by simp [go_sem, World.cell?_alloc_past]) (by simp)
    have x20 : w0.cell? ⟨w.heap.size + 1 + 1, 0, none⟩ = some (.bool gc) := hg.cell (by simp [go_sem, World.cell?_alloc_past]) (by simp)
    have x21 : w0.cell? ⟨w.heap.size + 1 + 1, 1, none⟩ = some (.slice r l k) := hg.cell (by simp [go_sem, World.cell?_alloc_past]) (by simp)
    have hz0 := hg.size; simp at hz0
    replace hg := grown_trans hW3 hg
    replace hA := hA.keep hg; replace hB := hB.keep hg; replace hC := hC.keep hg
    have hW := hg
    clear hg
    clear hW3 HS
    have HC1 := hid (fun W (h : w0.grownBy W none) => intAdd_any (hA.keep h) (hB.keep h) (by omega) (by omega))
    have HC2 := hid (fun W (h : w0.grownBy W none) => intMul_any (hA.keep h) (hB.keep h) (by omega) (by omega))
    unfold IPost at HC1 HC2
    have G0 : w0.grownBy w0.drew none := grown_drew _ _
    have G1 : ∀ o, w0.grownBy (w0.alloc o).drew none := fun o => grown_trans (World.grownBy_alloc _ _ _) (grown_drew _ _)
    have G2 : ∀ o o', w0.grownBy ((w0.alloc o).alloc o').drew none := fun o o' => grown_trans (grown_trans (World.grownBy_alloc _ _ _) (World.grownBy_alloc _ _ _)) (grown_drew _ _)
    go_cut [7, 8] from 16 to 21 (fun s7 s8 wx => SumRel A B w0 s7 s8 wx)
    case first =>
      go_region_held3 (fun w' => w'.cell? ⟨w.heap.size, 0, none⟩ = some (.bool ga) ∧ w'.cell? ⟨w.heap.size, 1, none⟩ = some (.slice a n c) ∧ w'.cell? ⟨w.heap.size + 1, 0, none⟩ = some (.bool gb) ∧ w'.cell? ⟨w.heap.size + 1, 1, none⟩ = some (.slice b m d))
        ((try go_split_ands) <;> (repeat' apply And.intro) <;> (repeat (first | (with_reducible assumption) | (with_reducible refine (grown_setCell _ _ _).cell ?_ (by simp; omega)) | (with_reducible refine (World.grownBy_alloc _ _ none).cell ?_ (by simp)) | (with_reducible refine hg2.cell ?_ (by simp)) | (with_reducible refine hg1.cell ?_ (by simp)) | (with_reducible refine (grown_drew _ none).cell ?_ (by simp)))))
        (first
          | (go_at_call 12; (with_reducible refine (HC1.out _ (by first | exact G0 | exact G1 _ | exact G2 _ _)).mono ?_); rintro e w1 ⟨g1, p1, n1, c1, rfl, h1, hn1, hg1⟩; have hz1 := hg1.size; (try simp at hz1); have H1 : w0.grownBy w1 none := grown_trans (by first | exact G0 | exact G1 _ | exact G2 _ _) hg1; replace h1 := hid h1; (try (have B0 : BoxAt w1 (w0.heap.size) := BoxAt.grown (by first | exact (BoxAt.new _).drew | exact ((BoxAt.new _).alloc _).drew) hg1; obtain ⟨B0a, B0b, B0c, B0d, B0e⟩ := B0.facts; have B0H := hid B0; clear B0)); (try (have B1 : BoxAt w1 (w0.heap.size + 1) := BoxAt.grown (by first | exact (BoxAt.new2 _ _).drew) hg1; obtain ⟨B1a, B1b, B1c, B1d, B1e⟩ := B1.facts; have B1H := hid B1; clear B1)); have k1 := fun o => gcell (World.grownBy_alloc w1 o none); have f1 := fun o => gfree (World.grownBy_alloc w1 o none))
          | (go_at_call 13; (with_reducible refine (HC2.out _ (by first | exact H1 | exact grown_trans H1 (World.grownBy_alloc _ _ _) | exact grown_trans (grown_trans H1 (World.grownBy_alloc _ _ _)) (World.grownBy_alloc _ _ _))).mono ?_); rintro e w2 ⟨g2, p2, n2, c2, rfl, h2, hn2, hg2⟩; have hz2 := hg2.size; (try simp at hz2); replace h2 := hid h2; (try (have D0 : BoxAt w2 (w0.heap.size) := BoxAt.grown (by first | exact B0H.out | exact B0H.out.alloc _ | exact (B0H.out.alloc _).alloc _) hg2; obtain ⟨D0a, D0b, D0c, D0d, D0e⟩ := D0.facts; have D0H := hid D0; clear D0)); (try (have D1 : BoxAt w2 (w0.heap.size + 1) := BoxAt.grown (by first | exact B1H.out) hg2; obtain ⟨D1a, D1b, D1c, D1d, D1e⟩ := D1.facts; have D1H := hid D1; clear D1)); (try (have D2 : BoxAt w2 (w1.heap.size) := BoxAt.grown (by first | exact BoxAt.new _ | exact (BoxAt.new _).alloc _) hg2; obtain ⟨D2a, D2b, D2c, D2d, D2e⟩ := D2.facts; have D2H := hid D2; clear D2)); (try (have D3 : BoxAt w2 (w1.heap.size + 1) := BoxAt.grown (by first | exact BoxAt.new2 _ _) hg2; obtain ⟨D3a, D3b, D3c, D3d, D3e⟩ := D3.facts; have D3H := hid D3; clear D3)); clear k1 f1; have k2 := fun o => gcell (World.grownBy_alloc w2 o none); have f2 := fun o => gfree (World.grownBy_alloc w2 o none); (try have e01 : w0.heap.size ≠ w1.heap.size := by omega); (try have e10 : w1.heap.size ≠ w0.heap.size := by omega); (try have e02 : w0.heap.size ≠ w2.heap.size := by omega); (try have e12 : w1.heap.size ≠ w2.heap.size := by omega); (try have e20 : w2.heap.size ≠ w0.heap.size := by omega); (try have e21 : w2.heap.size ≠ w1.heap.size := by omega)))
      all_goals
        go_wp2_with fail
        go_meet
        have HX : w1.grownBy w2 none := by
          first
            | exact hg2
            | exact grown_trans (World.grownBy_alloc _ _ _) hg2
            | exact grown_trans (grown_trans (World.grownBy_alloc _ _ _) (World.grownBy_alloc _ _ _)) hg2
        have K1 := (h1.out).keep HX
        have K2 := h2.out
        have KG := grown_trans H1 HX
        have b1 : n1 ≤ 49 := by omega
        have b2 : n2 ≤ 48 := by omega
        have hz01 := H1.size
        first
          | with_reducible exact leaf_alloc K1 K2 b1 b2 KG
          | with_reducible exact leaf_alloc' K1 K2 b1 b2 KG
          | with_reducible exact leaf_set1 K1 K2 b1 b2 KG D0H.out (by omega)
          | with_reducible exact leaf_set1 K1 K2 b1 b2 KG D2H.out (by omega)
          | with_reducible exact leaf_set2 K1 K2 b1 b2 KG D0H.out (by omega)
          | with_reducible exact leaf_set2 K1 K2 b1 b2 KG D2H.out (by omega)
          | with_reducible exact leaf_sets K1 K2 b1 b2 KG D0H.out D1H.out (by omega) (by omega) (by omega)
          | with_reducible exact leaf_sets K1 K2 b1 b2 KG D1H.out D0H.out (by omega) (by omega) (by omega)
          | with_reducible exact leaf_sets K1 K2 b1 b2 KG D2H.out D3H.out (by omega) (by omega) (by omega)
          | with_reducible exact leaf_sets K1 K2 b1 b2 KG D3H.out D2H.out (by omega) (by omega) (by omega)
          | with_reducible exact leaf_sets K1 K2 b1 b2 KG D0H.out D2H.out (by omega) (by omega) (by omega)
          | with_reducible exact leaf_sets K1 K2 b1 b2 KG D2H.out D0H.out (by omega) (by omega) (by omega)
    case rest =>
      obtain ⟨u, v, gs, gp, ps, pp, ns, cs, np, cp, rfl, rfl, y0, y1, z0, z1, hS, hP, bs, bp, hg⟩ := hcut
      clear HC1 HC2 G0 G1 G2
      replace hA := hA.keep hg; replace hB := hB.keep hg; replace hC := hC.keep hg; replace x00 := hg.cell x00 (by simp)
      replace x01 := hg.cell x01 (by simp); replace x10 := hg.cell x10 (by simp); replace x11 := hg.cell x11 (by simp); replace x20 := hg.cell x20 (by simp)
      replace x21 := hg.cell x21 (by simp)
      replace hW := grown_trans hW hg
      clear hg
      go_wp2_with fail
      have hg := grown_drew wc none
      replace hA := hA.keep hg; replace hB := hB.keep hg; replace hC := hC.keep hg; replace hS := hS.keep hg
      replace hP := hP.keep hg; replace x00 := hg.cell x00 (by simp); replace x01 := hg.cell x01 (by simp); replace x10 := hg.cell x10 (by simp)
      replace x11 := hg.cell x11 (by simp); replace x20 := hg.cell x20 (by simp); replace x21 := hg.cell x21 (by simp); replace y0 := hg.cell y0 (by simp)
      replace y1 := hg.cell y1 (by simp); replace z0 := hg.cell z0 (by simp); replace z1 := hg.cell z1 (by simp)
      replace hW := grown_trans hW hg
      clear hg
      go_region_held3 (fun w' => w'.cell? ⟨w.heap.size, 0, none⟩ = some (.bool ga) ∧ w'.cell? ⟨w.heap.size, 1, none⟩ = some (.slice a n c) ∧ w'.cell? ⟨w.heap.size + 1, 0, none⟩ = some (.bool gb) ∧ w'.cell? ⟨w.heap.size + 1, 1, none⟩ = some (.slice b m d) ∧ w'.cell? ⟨w.heap.size + 1 + 1, 0, none⟩ = some (.bool gc) ∧ w'.cell? ⟨w.heap.size + 1 + 1, 1, none⟩ = some (.slice r l k) ∧ w'.cell? ⟨u, 0, none⟩ = some (.bool gs) ∧ w'.cell? ⟨u, 1, none⟩ = some (.slice ps ns cs) ∧ w'.cell? ⟨v, 0, none⟩ = some (.bool gp) ∧ w'.cell? ⟨v, 1, none⟩ = some (.slice pp np cp)) (((try dsimp only) <;> (repeat' apply And.intro) <;> (repeat' (first | assumption | refine (World.grownBy_alloc _ _ none).cell ?_ (by simp) | refine (grown_drew _ none).cell ?_ (by simp) | refine (grown_setCell _ _ _).cell ?_ (by simp; omega)))))
        (first
          | (go_at_call 14; (with_reducible refine (intRight_valid hS).mono ?_); rintro e w1 ⟨rfl, hg⟩; replace hA := hA.keep hg; replace hB := hB.keep hg; replace hC := hC.keep hg; replace hS := hS.keep hg; replace hP := hP.keep hg; replace x00 := hg.cell x00 (by simp); replace x01 := hg.cell x01 (by simp); replace x10 := hg.cell x10 (by simp); replace x11 := hg.cell x11 (by simp); replace x20 := hg.cell x20 (by simp); replace x21 := hg.cell x21 (by simp); replace y0 := hg.cell y0 (by simp); replace y1 := hg.cell y1 (by simp); replace z0 := hg.cell z0 (by simp); replace z1 := hg.cell z1 (by simp); replace hW := grown_trans hW hg; clear hg)
          | (go_at_call 14; (with_reducible refine (intRight_valid hP).mono ?_); rintro e w2 ⟨rfl, hg⟩; replace hA := hA.keep hg; replace hB := hB.keep hg; replace hC := hC.keep hg; replace hS := hS.keep hg; replace hP := hP.keep hg; replace x00 := hg.cell x00 (by simp); replace x01 := hg.cell x01 (by simp); replace x10 := hg.cell x10 (by simp); replace x11 := hg.cell x11 (by simp); replace x20 := hg.cell x20 (by simp); replace x21 := hg.cell x21 (by simp); replace y0 := hg.cell y0 (by simp); replace y1 := hg.cell y1 (by simp); replace z0 := hg.cell z0 (by simp); replace z1 := hg.cell z1 (by simp); replace hW := grown_trans hW hg; clear hg)
          | (go_at_call 12; (with_reducible refine (intAdd_any hB hA (by omega) (by omega)).mono ?_); rintro e w3 ⟨g3, p3, n3, c3, rfl, a1, hn3, hg⟩; replace hA := hA.keep hg; replace hB := hB.keep hg; replace hC := hC.keep hg; replace hS := hS.keep hg; replace hP := hP.keep hg; replace x00 := hg.cell x00 (by simp); replace x01 := hg.cell x01 (by simp); replace x10 := hg.cell x10 (by simp); replace x11 := hg.cell x11 (by simp); replace x20 := hg.cell x20 (by simp); replace x21 := hg.cell x21 (by simp); replace y0 := hg.cell y0 (by simp); replace y1 := hg.cell y1 (by simp); replace z0 := hg.cell z0 (by simp); replace z1 := hg.cell z1 (by simp); replace hW := grown_trans hW hg; clear hg)
          | (go_at_call 15; (with_reducible refine (same2_any hS a1 (Int.add_comm A B)).mono ?_); rintro e w4 ⟨rfl, hg⟩; replace hA := hA.keep hg; replace hB := hB.keep hg; replace hC := hC.keep hg; replace hS := hS.keep hg; replace hP := hP.keep hg; replace a1 := a1.keep hg; replace x00 := hg.cell x00 (by simp); replace x01 := hg.cell x01 (by simp); replace x10 := hg.cell x10 (by simp); replace x11 := hg.cell x11 (by simp); replace x20 := hg.cell x20 (by simp); replace x21 := hg.cell x21 (by simp); replace y0 := hg.cell y0 (by simp); replace y1 := hg.cell y1 (by simp); replace z0 := hg.cell z0 (by simp); replace z1 := hg.cell z1 (by simp); replace hW := grown_trans hW hg; clear hg)
          | (go_at_call 13; (with_reducible refine (intMul_any hB hA (by omega) (by omega)).mono ?_); rintro e w5 ⟨g5, p5, n5, c5, rfl, m1, hn5, hg⟩; replace hA := hA.keep hg; replace hB := hB.keep hg; replace hC := hC.keep hg; replace hS := hS.keep hg; replace hP := hP.keep hg; replace a1 := a1.keep hg; replace x00 := hg.cell x00 (by simp); replace x01 := hg.cell x01 (by simp); replace x10 := hg.cell x10 (by simp); replace x11 := hg.cell x11 (by simp); replace x20 := hg.cell x20 (by simp); replace x21 := hg.cell x21 (by simp); replace y0 := hg.cell y0 (by simp); replace y1 := hg.cell y1 (by simp); replace z0 := hg.cell z0 (by simp); replace z1 := hg.cell z1 (by simp); replace hW := grown_trans hW hg; clear hg)
          | (go_at_call 15; (with_reducible refine (same2_any hP m1 (Int.mul_comm A B)).mono ?_); rintro e w6 ⟨rfl, hg⟩; replace hA := hA.keep hg; replace hB := hB.keep hg; replace hC := hC.keep hg; replace hS := hS.keep hg; replace hP := hP.keep hg; replace a1 := a1.keep hg; replace m1 := m1.keep hg; replace x00 := hg.cell x00 (by simp); replace x01 := hg.cell x01 (by simp); replace x10 := hg.cell x10 (by simp); replace x11 := hg.cell x11 (by simp); replace x20 := hg.cell x20 (by simp); replace x21 := hg.cell x21 (by simp); replace y0 := hg.cell y0 (by simp); replace y1 := hg.cell y1 (by simp); replace z0 := hg.cell z0 (by simp); replace z1 := hg.cell z1 (by simp); replace hW := grown_trans hW hg; clear hg))
      clear a1 m1
      go_wp2_with fail
      have hg := grown_drew w6 none
      replace hA := hA.keep hg; replace hB := hB.keep hg; replace hC := hC.keep hg; replace hS := hS.keep hg
      replace hP := hP.keep hg; replace x00 := hg.cell x00 (by simp); replace x01 := hg.cell x01 (by simp); replace x10 := hg.cell x10 (by simp)
      replace x11 := hg.cell x11 (by simp); replace x20 := hg.cell x20 (by simp); replace x21 := hg.cell x21 (by simp); replace y0 := hg.cell y0 (by simp)
      replace y1 := hg.cell y1 (by simp); replace z0 := hg.cell z0 (by simp); replace z1 := hg.cell z1 (by simp)
      replace hW := grown_trans hW hg
      clear hg
      go_region_held3 (fun w' => w'.cell? ⟨w.heap.size, 0, none⟩ = some (.bool ga) ∧ w'.cell? ⟨w.heap.size, 1, none⟩ = some (.slice a n c) ∧ w'.cell? ⟨w.heap.size + 1, 0, none⟩ = some (.bool gb) ∧ w'.cell? ⟨w.heap.size + 1, 1, none⟩ = some (.slice b m d) ∧ w'.cell? ⟨w.heap.size + 1 + 1, 0, none⟩ = some (.bool gc) ∧ w'.cell? ⟨w.heap.size + 1 + 1, 1, none⟩ = some (.slice r l k) ∧ w'.cell? ⟨u, 0, none⟩ = some (.bool gs) ∧ w'.cell? ⟨u, 1, none⟩ = some (.slice ps ns cs) ∧ w'.cell? ⟨v, 0, none⟩ = some (.bool gp) ∧ w'.cell? ⟨v, 1, none⟩ = some (.slice pp np cp)) (((try dsimp only) <;> (repeat' apply And.intro) <;> (repeat' (first | assumption | refine (World.grownBy_alloc _ _ none).cell ?_ (by simp) | refine (grown_drew _ none).cell ?_ (by simp) | refine (grown_setCell _ _ _).cell ?_ (by simp; omega)))))
        (first
          | (go_at_call 12; (with_reducible refine (intAdd_any hS.z hC (by omega) (by omega)).mono ?_); rintro e w7 ⟨g7, p7, n7, c7, rfl, a1, hn7, hg⟩; replace hA := hA.keep hg; replace hB := hB.keep hg; replace hC := hC.keep hg; replace hS := hS.keep hg; replace hP := hP.keep hg; replace x00 := hg.cell x00 (by simp); replace x01 := hg.cell x01 (by simp); replace x10 := hg.cell x10 (by simp); replace x11 := hg.cell x11 (by simp); replace x20 := hg.cell x20 (by simp); replace x21 := hg.cell x21 (by simp); replace y0 := hg.cell y0 (by simp); replace y1 := hg.cell y1 (by simp); replace z0 := hg.cell z0 (by simp); replace z1 := hg.cell z1 (by simp); replace hW := grown_trans hW hg; clear hg)
          | (go_at_call 12; (with_reducible refine (intAdd_any hB hC (by omega) (by omega)).mono ?_); rintro e w8 ⟨g8, p8, n8, c8, rfl, a2, hn8, hg⟩; replace hA := hA.keep hg; replace hB := hB.keep hg; replace hC := hC.keep hg; replace hS := hS.keep hg; replace hP := hP.keep hg; replace a1 := a1.keep hg; replace x00 := hg.cell x00 (by simp); replace x01 := hg.cell x01 (by simp); replace x10 := hg.cell x10 (by simp); replace x11 := hg.cell x11 (by simp); replace x20 := hg.cell x20 (by simp); replace x21 := hg.cell x21 (by simp); replace y0 := hg.cell y0 (by simp); replace y1 := hg.cell y1 (by simp); replace z0 := hg.cell z0 (by simp); replace z1 := hg.cell z1 (by simp); replace hW := grown_trans hW hg; clear hg)
          | (go_at_call 12; (with_reducible refine (intAdd_any hA a2.z (by omega) (by omega)).mono ?_); rintro e w9 ⟨g9, p9, n9, c9, rfl, a3, hn9, hg⟩; replace hA := hA.keep hg; replace hB := hB.keep hg; replace hC := hC.keep hg; replace hS := hS.keep hg; replace hP := hP.keep hg; replace a1 := a1.keep hg; replace a2 := a2.keep hg; replace x00 := hg.cell x00 (by simp); replace x01 := hg.cell x01 (by simp); replace x10 := hg.cell x10 (by simp); replace x11 := hg.cell x11 (by simp); replace x20 := hg.cell x20 (by simp); replace x21 := hg.cell x21 (by simp); replace y0 := hg.cell y0 (by simp); replace y1 := hg.cell y1 (by simp); replace z0 := hg.cell z0 (by simp); replace z1 := hg.cell z1 (by simp); replace hW := grown_trans hW hg; clear hg)
          | (go_at_call 15; (with_reducible refine (same2_any a1 a3 (Int.add_assoc A B C)).mono ?_); rintro e w10 ⟨rfl, hg⟩; replace hA := hA.keep hg; replace hB := hB.keep hg; replace hC := hC.keep hg; replace hS := hS.keep hg; replace hP := hP.keep hg; replace a1 := a1.keep hg; replace a2 := a2.keep hg; replace a3 := a3.keep hg; replace x00 := hg.cell x00 (by simp); replace x01 := hg.cell x01 (by simp); replace x10 := hg.cell x10 (by simp); replace x11 := hg.cell x11 (by simp); replace x20 := hg.cell x20 (by simp); replace x21 := hg.cell x21 (by simp); replace y0 := hg.cell y0 (by simp); replace y1 := hg.cell y1 (by simp); replace z0 := hg.cell z0 (by simp); replace z1 := hg.cell z1 (by simp); replace hW := grown_trans hW hg; clear hg)
          | (go_at_call 13; (with_reducible refine (intMul_any hP.z hC (by omega) (by omega)).mono ?_); rintro e w11 ⟨g11, p11, n11, c11, rfl, m1, hn11, hg⟩; replace hA := hA.keep hg; replace hB := hB.keep hg; replace hC := hC.keep hg; replace hS := hS.keep hg; replace hP := hP.keep hg; replace a1 := a1.keep hg; replace a2 := a2.keep hg; replace a3 := a3.keep hg; replace x00 := hg.cell x00 (by simp); replace x01 := hg.cell x01 (by simp); replace x10 := hg.cell x10 (by simp); replace x11 := hg.cell x11 (by simp); replace x20 := hg.cell x20 (by simp); replace x21 := hg.cell x21 (by simp); replace y0 := hg.cell y0 (by simp); replace y1 := hg.cell y1 (by simp); replace z0 := hg.cell z0 (by simp); replace z1 := hg.cell z1 (by simp); replace hW := grown_trans hW hg; clear hg)
          | (go_at_call 13; (with_reducible refine (intMul_any hB hC (by omega) (by omega)).mono ?_); rintro e w12 ⟨g12, p12, n12, c12, rfl, m2, hn12, hg⟩; replace hA := hA.keep hg; replace hB := hB.keep hg; replace hC := hC.keep hg; replace hS := hS.keep hg; replace hP := hP.keep hg; replace a1 := a1.keep hg; replace a2 := a2.keep hg; replace a3 := a3.keep hg; replace m1 := m1.keep hg; replace x00 := hg.cell x00 (by simp); replace x01 := hg.cell x01 (by simp); replace x10 := hg.cell x10 (by simp); replace x11 := hg.cell x11 (by simp); replace x20 := hg.cell x20 (by simp); replace x21 := hg.cell x21 (by simp); replace y0 := hg.cell y0 (by simp); replace y1 := hg.cell y1 (by simp); replace z0 := hg.cell z0 (by simp); replace z1 := hg.cell z1 (by simp); replace hW := grown_trans hW hg; clear hg)
          | (go_at_call 13; (with_reducible refine (intMul_any hA m2.z (by omega) (by omega)).mono ?_); rintro e w13 ⟨g13, p13, n13, c13, rfl, m3, hn13, hg⟩; replace hA := hA.keep hg; replace hB := hB.keep hg; replace hC := hC.keep hg; replace hS := hS.keep hg; replace hP := hP.keep hg; replace a1 := a1.keep hg; replace a2 := a2.keep hg; replace a3 := a3.keep hg; replace m1 := m1.keep hg; replace m2 := m2.keep hg; replace x00 := hg.cell x00 (by simp); replace x01 := hg.cell x01 (by simp); replace x10 := hg.cell x10 (by simp); replace x11 := hg.cell x11 (by simp); replace x20 := hg.cell x20 (by simp); replace x21 := hg.cell x21 (by simp); replace y0 := hg.cell y0 (by simp); replace y1 := hg.cell y1 (by simp); replace z0 := hg.cell z0 (by simp); replace z1 := hg.cell z1 (by simp); replace hW := grown_trans hW hg; clear hg)
          | (go_at_call 15; (with_reducible refine (same2_any m1 m3 (Int.mul_assoc A B C)).mono ?_); rintro e w14 ⟨rfl, hg⟩; replace hA := hA.keep hg; replace hB := hB.keep hg; replace hC := hC.keep hg; replace hS := hS.keep hg; replace hP := hP.keep hg; replace a1 := a1.keep hg; replace a2 := a2.keep hg; replace a3 := a3.keep hg; replace m1 := m1.keep hg; replace m2 := m2.keep hg; replace m3 := m3.keep hg; replace x00 := hg.cell x00 (by simp); replace x01 := hg.cell x01 (by simp); replace x10 := hg.cell x10 (by simp); replace x11 := hg.cell x11 (by simp); replace x20 := hg.cell x20 (by simp); replace x21 := hg.cell x21 (by simp); replace y0 := hg.cell y0 (by simp); replace y1 := hg.cell y1 (by simp); replace z0 := hg.cell z0 (by simp); replace z1 := hg.cell z1 (by simp); replace hW := grown_trans hW hg; clear hg))
      clear a1 a2 a3 m1 m2 m3
      go_wp2_with fail
      have hg := grown_drew w14 none
      replace hA := hA.keep hg; replace hB := hB.keep hg; replace hC := hC.keep hg; replace hS := hS.keep hg
      replace hP := hP.keep hg; replace x00 := hg.cell x00 (by simp); replace x01 := hg.cell x01 (by simp); replace x10 := hg.cell x10 (by simp)
      replace x11 := hg.cell x11 (by simp); replace x20 := hg.cell x20 (by simp); replace x21 := hg.cell x21 (by simp); replace y0 := hg.cell y0 (by simp)
      replace y1 := hg.cell y1 (by simp); replace z0 := hg.cell z0 (by simp); replace z1 := hg.cell z1 (by simp)
      replace hW := grown_trans hW hg
      clear hg
      go_region_held3 (fun w' => w'.cell? ⟨w.heap.size, 0, none⟩ = some (.bool ga) ∧ w'.cell? ⟨w.heap.size, 1, none⟩ = some (.slice a n c) ∧ w'.cell? ⟨w.heap.size + 1, 0, none⟩ = some (.bool gb) ∧ w'.cell? ⟨w.heap.size + 1, 1, none⟩ = some (.slice b m d) ∧ w'.cell? ⟨w.heap.size + 1 + 1, 0, none⟩ = some (.bool gc) ∧ w'.cell? ⟨w.heap.size + 1 + 1, 1, none⟩ = some (.slice r l k) ∧ w'.cell? ⟨u, 0, none⟩ = some (.bool gs) ∧ w'.cell? ⟨u, 1, none⟩ = some (.slice ps ns cs) ∧ w'.cell? ⟨v, 0, none⟩ = some (.bool gp) ∧ w'.cell? ⟨v, 1, none⟩ = some (.slice pp np cp)) (((try dsimp only) <;> (repeat' apply And.intro) <;> (repeat' (first | assumption | refine (World.grownBy_alloc _ _ none).cell ?_ (by simp) | refine (grown_drew _ none).cell ?_ (by simp) | refine (grown_setCell _ _ _).cell ?_ (by simp; omega)))))
        (first
          | (go_at_call 13; (with_reducible refine (intMul_any hS.z hC (by omega) (by omega)).mono ?_); rintro e w15 ⟨g15, p15, n15, c15, rfl, m1, hn15, hg⟩; replace hA := hA.keep hg; replace hB := hB.keep hg; replace hC := hC.keep hg; replace hS := hS.keep hg; replace hP := hP.keep hg; replace x00 := hg.cell x00 (by simp); replace x01 := hg.cell x01 (by simp); replace x10 := hg.cell x10 (by simp); replace x11 := hg.cell x11 (by simp); replace x20 := hg.cell x20 (by simp); replace x21 := hg.cell x21 (by simp); replace y0 := hg.cell y0 (by simp); replace y1 := hg.cell y1 (by simp); replace z0 := hg.cell z0 (by simp); replace z1 := hg.cell z1 (by simp); replace hW := grown_trans hW hg; clear hg)
          | (go_at_call 13; (with_reducible refine (intMul_any hA hC (by omega) (by omega)).mono ?_); rintro e w16 ⟨g16, p16, n16, c16, rfl, m2, hn16, hg⟩; replace hA := hA.keep hg; replace hB := hB.keep hg; replace hC := hC.keep hg; replace hS := hS.keep hg; replace hP := hP.keep hg; replace m1 := m1.keep hg; replace x00 := hg.cell x00 (by simp); replace x01 := hg.cell x01 (by simp); replace x10 := hg.cell x10 (by simp); replace x11 := hg.cell x11 (by simp); replace x20 := hg.cell x20 (by simp); replace x21 := hg.cell x21 (by simp); replace y0 := hg.cell y0 (by simp); replace y1 := hg.cell y1 (by simp); replace z0 := hg.cell z0 (by simp); replace z1 := hg.cell z1 (by simp); replace hW := grown_trans hW hg; clear hg)
          | (go_at_call 13; (with_reducible refine (intMul_any hB hC (by omega) (by omega)).mono ?_); rintro e w17 ⟨g17, p17, n17, c17, rfl, m3, hn17, hg⟩; replace hA := hA.keep hg; replace hB := hB.keep hg; replace hC := hC.keep hg; replace hS := hS.keep hg; replace hP := hP.keep hg; replace m1 := m1.keep hg; replace m2 := m2.keep hg; replace x00 := hg.cell x00 (by simp); replace x01 := hg.cell x01 (by simp); replace x10 := hg.cell x10 (by simp); replace x11 := hg.cell x11 (by simp); replace x20 := hg.cell x20 (by simp); replace x21 := hg.cell x21 (by simp); replace y0 := hg.cell y0 (by simp); replace y1 := hg.cell y1 (by simp); replace z0 := hg.cell z0 (by simp); replace z1 := hg.cell z1 (by simp); replace hW := grown_trans hW hg; clear hg)
          | (go_at_call 12; (with_reducible refine (intAdd_any m2.z m3.z (by omega) (by omega)).mono ?_); rintro e w18 ⟨g18, p18, n18, c18, rfl, a1, hn18, hg⟩; replace hA := hA.keep hg; replace hB := hB.keep hg; replace hC := hC.keep hg; replace hS := hS.keep hg; replace hP := hP.keep hg; replace m1 := m1.keep hg; replace m2 := m2.keep hg; replace m3 := m3.keep hg; replace x00 := hg.cell x00 (by simp); replace x01 := hg.cell x01 (by simp); replace x10 := hg.cell x10 (by simp); replace x11 := hg.cell x11 (by simp); replace x20 := hg.cell x20 (by simp); replace x21 := hg.cell x21 (by simp); replace y0 := hg.cell y0 (by simp); replace y1 := hg.cell y1 (by simp); replace z0 := hg.cell z0 (by simp); replace z1 := hg.cell z1 (by simp); replace hW := grown_trans hW hg; clear hg)
          | (go_at_call 15; (with_reducible refine (same2_any m1 a1 (Int.add_mul A B C)).mono ?_); rintro e w19 ⟨rfl, hg⟩; replace hA := hA.keep hg; replace hB := hB.keep hg; replace hC := hC.keep hg; replace hS := hS.keep hg; replace hP := hP.keep hg; replace m1 := m1.keep hg; replace m2 := m2.keep hg; replace m3 := m3.keep hg; replace a1 := a1.keep hg; replace x00 := hg.cell x00 (by simp); replace x01 := hg.cell x01 (by simp); replace x10 := hg.cell x10 (by simp); replace x11 := hg.cell x11 (by simp); replace x20 := hg.cell x20 (by simp); replace x21 := hg.cell x21 (by simp); replace y0 := hg.cell y0 (by simp); replace y1 := hg.cell y1 (by simp); replace z0 := hg.cell z0 (by simp); replace z1 := hg.cell z1 (by simp); replace hW := grown_trans hW hg; clear hg))
      clear m1 m2 m3 a1
      go_wp2_with fail
      have hg := grown_drew w19 none
      replace hA := hA.keep hg; replace hB := hB.keep hg; replace hC := hC.keep hg; replace hS := hS.keep hg
      replace hP := hP.keep hg; replace x00 := hg.cell x00 (by simp); replace x01 := hg.cell x01 (by simp); replace x10 := hg.cell x10 (by simp)
      replace x11 := hg.cell x11 (by simp); replace x20 := hg.cell x20 (by simp); replace x21 := hg.cell x21 (by simp); replace y0 := hg.cell y0 (by simp)
      replace y1 := hg.cell y1 (by simp); replace z0 := hg.cell z0 (by simp); replace z1 := hg.cell z1 (by simp)
      replace hW := grown_trans hW hg
      clear hg
      go_region_held3 (fun w' => w'.cell? ⟨w.heap.size, 0, none⟩ = some (.bool ga) ∧ w'.cell? ⟨w.heap.size, 1, none⟩ = some (.slice a n c) ∧ w'.cell? ⟨w.heap.size + 1, 0, none⟩ = some (.bool gb) ∧ w'.cell? ⟨w.heap.size + 1, 1, none⟩ = some (.slice b m d) ∧ w'.cell? ⟨w.heap.size + 1 + 1, 0, none⟩ = some (.bool gc) ∧ w'.cell? ⟨w.heap.size + 1 + 1, 1, none⟩ = some (.slice r l k) ∧ w'.cell? ⟨u, 0, none⟩ = some (.bool gs) ∧ w'.cell? ⟨u, 1, none⟩ = some (.slice ps ns cs) ∧ w'.cell? ⟨v, 0, none⟩ = some (.bool gp) ∧ w'.cell? ⟨v, 1, none⟩ = some (.slice pp np cp)) (((try dsimp only) <;> (repeat' apply And.intro) <;> (repeat' (first | assumption | refine (World.grownBy_alloc _ _ none).cell ?_ (by simp) | refine (grown_drew _ none).cell ?_ (by simp) | refine (grown_setCell _ _ _).cell ?_ (by simp; omega)))))
        (first
          | (go_at_call 16; (with_reducible refine (intSub_any hS.z hB (by omega) (by omega)).mono ?_); rintro e w20 ⟨g20, p20, n20, c20, rfl, s1, hn20, hg⟩; replace hA := hA.keep hg; replace hB := hB.keep hg; replace hC := hC.keep hg; replace hS := hS.keep hg; replace hP := hP.keep hg; replace x00 := hg.cell x00 (by simp); replace x01 := hg.cell x01 (by simp); replace x10 := hg.cell x10 (by simp); replace x11 := hg.cell x11 (by simp); replace x20 := hg.cell x20 (by simp); replace x21 := hg.cell x21 (by simp); replace y0 := hg.cell y0 (by simp); replace y1 := hg.cell y1 (by simp); replace z0 := hg.cell z0 (by simp); replace z1 := hg.cell z1 (by simp); replace hW := grown_trans hW hg; clear hg)
          | (go_at_call 17; (with_reducible refine (intNorm_any hA (by omega)).mono ?_); rintro e w21 ⟨g21, p21, n21, c21, rfl, s2, hn21, hg⟩; replace hA := hA.keep hg; replace hB := hB.keep hg; replace hC := hC.keep hg; replace hS := hS.keep hg; replace hP := hP.keep hg; replace s1 := s1.keep hg; replace x00 := hg.cell x00 (by simp); replace x01 := hg.cell x01 (by simp); replace x10 := hg.cell x10 (by simp); replace x11 := hg.cell x11 (by simp); replace x20 := hg.cell x20 (by simp); replace x21 := hg.cell x21 (by simp); replace y0 := hg.cell y0 (by simp); replace y1 := hg.cell y1 (by simp); replace z0 := hg.cell z0 (by simp); replace z1 := hg.cell z1 (by simp); replace hW := grown_trans hW hg; clear hg)
          | (go_at_call 15; (with_reducible refine (same2_any s1 s2 (by omega)).mono ?_); rintro e w22 ⟨rfl, hg⟩; replace hA := hA.keep hg; replace hB := hB.keep hg; replace hC := hC.keep hg; replace hS := hS.keep hg; replace hP := hP.keep hg; replace s1 := s1.keep hg; replace s2 := s2.keep hg; replace x00 := hg.cell x00 (by simp); replace x01 := hg.cell x01 (by simp); replace x10 := hg.cell x10 (by simp); replace x11 := hg.cell x11 (by simp); replace x20 := hg.cell x20 (by simp); replace x21 := hg.cell x21 (by simp); replace y0 := hg.cell y0 (by simp); replace y1 := hg.cell y1 (by simp); replace z0 := hg.cell z0 (by simp); replace z1 := hg.cell z1 (by simp); replace hW := grown_trans hW hg; clear hg)
          | (go_at_call 19; (with_reducible refine (intNeg_any hA (by omega)).mono ?_); rintro e w23 ⟨g23, p23, n23, c23, rfl, s3, hn23, hg⟩; replace hA := hA.keep hg; replace hB := hB.keep hg; replace hC := hC.keep hg; replace hS := hS.keep hg; replace hP := hP.keep hg; replace s1 := s1.keep hg; replace s2 := s2.keep hg; replace x00 := hg.cell x00 (by simp); replace x01 := hg.cell x01 (by simp); replace x10 := hg.cell x10 (by simp); replace x11 := hg.cell x11 (by simp); replace x20 := hg.cell x20 (by simp); replace x21 := hg.cell x21 (by simp); replace y0 := hg.cell y0 (by simp); replace y1 := hg.cell y1 (by simp); replace z0 := hg.cell z0 (by simp); replace z1 := hg.cell z1 (by simp); replace hW := grown_trans hW hg; clear hg)
          | (go_at_call 12; (with_reducible refine (intAdd_any hA s3.z (by omega) (by omega)).mono ?_); rintro e w24 ⟨g24, p24, n24, c24, rfl, a1, hn24, hg⟩; replace hA := hA.keep hg; replace hB := hB.keep hg; replace hC := hC.keep hg; replace hS := hS.keep hg; replace hP := hP.keep hg; replace s1 := s1.keep hg; replace s2 := s2.keep hg; replace s3 := s3.keep hg; replace x00 := hg.cell x00 (by simp); replace x01 := hg.cell x01 (by simp); replace x10 := hg.cell x10 (by simp); replace x11 := hg.cell x11 (by simp); replace x20 := hg.cell x20 (by simp); replace x21 := hg.cell x21 (by simp); replace y0 := hg.cell y0 (by simp); replace y1 := hg.cell y1 (by simp); replace z0 := hg.cell z0 (by simp); replace z1 := hg.cell z1 (by simp); replace hW := grown_trans hW hg; clear hg)
          | (go_at_call 18; (with_reducible refine (intSign_any a1.z (by omega)).mono ?_); rintro e w25 ⟨rfl, hg⟩; rw [sign_none]; replace hA := hA.keep hg; replace hB := hB.keep hg; replace hC := hC.keep hg; replace hS := hS.keep hg; replace hP := hP.keep hg; replace s1 := s1.keep hg; replace s2 := s2.keep hg; replace s3 := s3.keep hg; replace a1 := a1.keep hg; replace x00 := hg.cell x00 (by simp); replace x01 := hg.cell x01 (by simp); replace x10 := hg.cell x10 (by simp); replace x11 := hg.cell x11 (by simp); replace x20 := hg.cell x20 (by simp); replace x21 := hg.cell x21 (by simp); replace y0 := hg.cell y0 (by simp); replace y1 := hg.cell y1 (by simp); replace z0 := hg.cell z0 (by simp); replace z1 := hg.cell z1 (by simp); replace hW := grown_trans hW hg; clear hg)
          | (go_at_call 11; (with_reducible refine (alive2 _).mono ?_); rintro e w26 ⟨rfl, hg⟩; replace hA := hA.keep hg; replace hB := hB.keep hg; replace hC := hC.keep hg; replace hS := hS.keep hg; replace hP := hP.keep hg; replace s1 := s1.keep hg; replace s2 := s2.keep hg; replace s3 := s3.keep hg; replace a1 := a1.keep hg; replace x00 := hg.cell x00 (by simp); replace x01 := hg.cell x01 (by simp); replace x10 := hg.cell x10 (by simp); replace x11 := hg.cell x11 (by simp); replace x20 := hg.cell x20 (by simp); replace x21 := hg.cell x21 (by simp); replace y0 := hg.cell y0 (by simp); replace y1 := hg.cell y1 (by simp); replace z0 := hg.cell z0 (by simp); replace z1 := hg.cell z1 (by simp); replace hW := grown_trans hW hg; clear hg))
      go_wp2_with fail
      go_ret
      exact ⟨rfl, hW⟩
  · rw [decide_eq_false h24] at HS
    go_enter Try.func3, Try.ntmps3
    go_wp2_with fail
    refine HS.out.mono ?_
    rintro e w0 ⟨rfl, hg⟩
    replace hW := grown_trans hW3 hg
    go_wp2_with fail
    refine (alive2 _).mono ?_
    rintro e w1 ⟨rfl, hg⟩
    go_wp2_with fail
    go_ret
    exact ⟨rfl, grown_trans hW hg⟩

set_option maxRecDepth 100000 in
theorem integerRing_lifted (os : Os) (started : os.Started) (H : Type) (enc : TypeId × Value → H) :
    ReturnsInHanded {} Try.checked os 3 .any (Rows.integerRingSpec.pre6 enc Try.prog Try.f3 Rows.integerRingRow.domain false) (Rows.integerRingSpec.post enc Try.prog Try.f3 false true false false) := by
  refine returnsInHanded_of_change (C := Try.checked) own1 started (by kernel_rfl) Try.func3
    (ChangeSpec.witness6 (enc := enc) (C := Try.checked) false ⟨#[], #[.agg #[.bool false, .slice none 0 0], .agg #[.bool false, .slice none 0 0], .agg #[.bool false, .slice none 0 0]], []⟩ 8 (by kernel_rfl) (by kernel_rfl) (by kernel_rfl) (by kernel_rfl)) ?_
  intro W base args ds gs before hval0 hW hcnd _
  have hval : ∀ (j : Nat) t v, Try.f3.params[j]? = some t → args[j]? = some v → Value.okWide Try.prog W .any base t v := hval0
  have hW' := hW
  obtain ⟨p, q, hA0, hV, rfl, hfz, hnd⟩ := hW
  have hA : DataW.TrodAll enc Try.prog W 0 (fun _ => true) true Try.f3.params.toList args.toList ds p := hA0
  rw [Try.params3] at hA hval
  obtain ⟨v0, v1, v2, d0, d1, d2, p0, p1, p2, rfl, rfl, rfl, h0, h1, h2⟩ := trodAll_three hA
  obtain ⟨rfl, rfl⟩ := trodVars_none hV
  have hlt : ∀ x ∈ p0 ++ (p1 ++ (p2)), x.block < W.heap.size := fun x hx => hW'.lt x (by simpa using hx)
  obtain ⟨g0, a, n, c, xs, rfl, hr0, hx0⟩ := open_Int (hval 0 25 v0 rfl rfl) h0
  obtain ⟨g1, b, m, d, ys, rfl, hr1, hx1⟩ := open_Int (hval 1 25 v1 rfl rfl) h1
  obtain ⟨g2, r, l, k, zs, rfl, hr2, hx2⟩ := open_Int (hval 2 25 v2 rfl rfl) h2
  refine (integerRing_walk g0 g1 g2 a b r n c m d l k _ _ _ W (IsZ.of g0 hr0 hx0) (IsZ.of g1 hr1 hx1) (IsZ.of g2 hr2 hx2)).mono fun e W' ⟨he, hg⟩ => ?_
  subst he
  have hB := grown_below hg
  exact ⟨_, rfl, _, _, _, [], _, [], hW', trodAll_mk1 (shut_bool Try.underlying4 true),
    trodAll_mk3 (Below.trod laidOut1 readInt rowInt h0 hB fun x hx => hlt x (by simp [hx])) (Below.trod laidOut1 readInt rowInt h1 hB fun x hx => hlt x (by simp [hx])) (Below.trod laidOut1 readInt rowInt h2 hB fun x hx => hlt x (by simp [hx])), rfl, hB.frame _, fun h => by cases h⟩

theorem integerRing_holds : Rows.IntegerRingSaid :=
  OpenClaim.holds_of_wide 3 Try.f3 rfl rfl rfl rfl rfl rfl rfl ⟨rfl, rfl, rfl, rfl, rfl⟩ rfl rfl rfl rfl rfl (by kernel_rfl) Try.func3 (by kernel_rfl)
    (of_decide_eq_true (by kernel_rfl)) (by unfold Func.isWrapper; first | (rw [if_pos (by decide +kernel)]; kernel_rfl) | (rw [if_neg (by decide +kernel)]; exact ⟨rfl, rfl⟩))
    (fun os started H enc _ => integerRing_lifted os started H enc)

end Go.Proofs.Ytcmbdnkfihanmaa
