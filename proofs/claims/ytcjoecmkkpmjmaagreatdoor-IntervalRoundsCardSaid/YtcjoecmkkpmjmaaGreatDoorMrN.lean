/-
  IvM IvN, in one text.
-/
import Derived.Test.YtcjoecmkkpmjmaaGreatDoorMrH

set_option linter.unusedVariables false
set_option linter.unusedSimpArgs false
namespace Go.Proofs.YtcjoecmkkpmjmaaGreatDoor
open Go.RowKit Nm

/-- a new struct that holds a number -/
def ROne (V : Rat) (b : Nat) (w0 : World) (s : Value) (wx : World) : Prop :=
  ∃ (u : Nat) (g : Bool) (p : Option Addr) (n c : Nat) (q : Option Addr) (m d : Nat), s = .pointer (some ⟨u, 0, none⟩) ∧
    wx.cell? ⟨u, 0, none⟩ = some (.bool g) ∧ wx.cell? ⟨u, 1, none⟩ = some (.slice p n c) ∧ wx.cell? ⟨u, 2, none⟩ = some (.slice q m d) ∧
    IsV wx g p n c q m d V ∧ (n ≤ b ∧ m ≤ b) ∧ w0.grownBy wx none
section
variable {A : Rat} {b : Nat} {w0 w2 : World} {g1 : Bool} {p1 q1 : Option Addr} {n1 c1 m1 d1 u : Nat}
theorem rone_alloc (h1 : IsV w2 g1 p1 n1 c1 q1 m1 d1 A) (b1 : n1 ≤ b ∧ m1 ≤ b) (hg : w0.grownBy w2 none) :
    ROne A b w0 (.pointer (some ⟨w2.heap.size, 0, none⟩)) (w2.alloc (.cells #[.bool g1, .slice p1 n1 c1, .slice q1 m1 d1] 27)) := by
  have hA := World.grownBy_alloc w2 (.cells #[.bool g1, .slice p1 n1 c1, .slice q1 m1 d1] 27) none
  exact ⟨_, g1, p1, n1, c1, q1, m1, d1, rfl, by simp [go_sem], by simp [go_sem], by simp [go_sem], h1.keep hA, b1, grown_trans hg hA⟩
theorem rone_set (h1 : IsV w2 g1 p1 n1 c1 q1 m1 d1 A) (b1 : n1 ≤ b ∧ m1 ≤ b) (hg : w0.grownBy w2 none) (hb : RBoxAt w2 u) (hu : w0.heap.size ≤ u) :
    ROne A b w0 (.pointer (some ⟨u, 0, none⟩)) (((w2.setCell ⟨u, 0, none⟩ (.bool g1)).setCell ⟨u, 1, none⟩ (.slice p1 n1 c1)).setCell ⟨u, 2, none⟩ (.slice q1 m1 d1)) := by
  have k := rbox_set hb g1 p1 n1 c1 q1 m1 d1
  have hG := grown_new hg k.1 (fun g e => by cases e; exact hu)
  have r1 := h1.other hb k.1
  obtain ⟨hS, hz, k0, k1, k2⟩ := k
  exact ⟨_, g1, p1, n1, c1, q1, m1, d1, rfl, k0, k1, k2, r1, b1, hG⟩
end

set_option maxRecDepth 20000 in
set_option maxHeartbeats 8000000 in
theorem recip_v (S : Nat) {w : World} (T : Tb w) {g1 : Bool} {p1 q1 : Option Addr} {n1 c1 m1 d1 : Nat} {B : Rat} (hB : IsV w g1 p1 n1 c1 q1 m1 d1 B) (h0 : B ≠ 0) (hn1 : n1 ≤ S) (hm1 : m1 ≤ S) (hS : S ≤ 8000) :
    Calls Tryz.prog 66 #[.agg #[.bool g1, .slice p1 n1 c1, .slice q1 m1 d1]] w (VPost w (((1 : Int) : Rat) / B) (4 * S + 40)) := by
  have HT := hid T
  have HZ := hid h0
  clear T h0
  have hW := (grown_trans (World.grownBy_alloc w (.cells #[.bool g1, .slice p1 n1 c1, .slice q1 m1 d1] 27) none) (World.grownBy_alloc _ (.cells #[.bool false, .slice none 0 0, .slice none 0 0] 27) none))
  have bx0 : ((w.alloc (.cells #[.bool g1, .slice p1 n1 c1, .slice q1 m1 d1] 27)).alloc (.cells #[.bool false, .slice none 0 0, .slice none 0 0] 27)).heap[w.heap.size]? = some (.cells #[.bool g1, .slice p1 n1 c1, .slice q1 m1 d1] 27 (0, 0)) := by
    have h0 := heap_alloc_new w (.cells #[.bool g1, .slice p1 n1 c1, .slice q1 m1 d1] 27)
    have h1 := (World.grownBy_alloc (w.alloc (.cells #[.bool g1, .slice p1 n1 c1, .slice q1 m1 d1] 27)) (.cells #[.bool false, .slice none 0 0, .slice none 0 0] 27) none).block _ (lt_of_block h0) (by simp)
    have h2 := h1.trans h0
    simpa using h2
  obtain ⟨x0, x1, x2, _, _, _⟩ := ratbox_facts bx0
  clear bx0
  have bx1 : ((w.alloc (.cells #[.bool g1, .slice p1 n1 c1, .slice q1 m1 d1] 27)).alloc (.cells #[.bool false, .slice none 0 0, .slice none 0 0] 27)).heap[w.heap.size + 1]? = some (.cells #[.bool false, .slice none 0 0, .slice none 0 0] 27 (0, 0)) := by
    have := heap_alloc_new (w.alloc (.cells #[.bool g1, .slice p1 n1 c1, .slice q1 m1 d1] 27)) (.cells #[.bool false, .slice none 0 0, .slice none 0 0] 27)
    simpa using this
  replace hB := hB.keep hW
  go_enter Tryz.func66, Tryz.ntmps66
  go_upto_region 1 with fail
  generalize ((w.alloc (.cells #[.bool g1, .slice p1 n1 c1, .slice q1 m1 d1] 27)).alloc (.cells #[.bool false, .slice none 0 0, .slice none 0 0] 27)) = w0 at *
  have hlt0 := lt_of_block bx1
  have HB := hid (fun W (h : w0.grownBy W none) => hB.keep h)
  have G0 : w0.grownBy w0.drew none := grown_drew _ _
  have G1 : ∀ o, w0.grownBy (w0.alloc o).drew none := fun o => grown_trans (World.grownBy_alloc _ _ _) (grown_drew _ _)
  go_cut [3, 4] from 5 to 10 (fun s3 s4 wx => ROne (((1 : Int) : Rat) / B) (4 * S + 40) w0 s3 wx)
  case first =>
    go_region_held3 (fun w' => w'.cell? ⟨w.heap.size, 0, none⟩ = some (.bool g1) ∧ w'.cell? ⟨w.heap.size, 1, none⟩ = some (.slice p1 n1 c1) ∧ w'.cell? ⟨w.heap.size, 2, none⟩ = some (.slice q1 m1 d1)) ((try go_split_ands) <;> (repeat' apply And.intro) <;> (repeat (first | (with_reducible assumption) | (with_reducible refine (grown_setCell _ _ _).cell ?_ (by simp; omega)) | (with_reducible refine (World.grownBy_alloc _ _ none).cell ?_ (by simp)) | (with_reducible refine hg2.cell ?_ (by simp)) | (with_reducible refine hg1.cell ?_ (by simp)) | (with_reducible refine (grown_drew _ none).cell ?_ (by simp)))))
      (first
        | (go_at_call 29; (with_reducible refine (ratOf_v 1 _ (by omega) (by omega)).mono ?_); rintro e w1 ⟨g11, p11, n11, c11, q11, m11, d11, rfl, h1, hn11, hm11, hg1⟩; have hz1 := hg1.size; (try simp at hz1); have H1 : w0.grownBy w1 none := grown_trans (by first | exact G0 | exact G1 _) hg1; have hs1 := H1.size; (try (have B0 : RBoxAt w1 (w0.heap.size) := RBoxAt.grown (by first | exact (RBoxAt.new _).drew | exact (RBoxAt.new _)) hg1; obtain ⟨B0a, B0b, B0c, B0d, B0e, B0f, B0g⟩ := B0.facts; have B0H := hid B0; clear B0)); have k1 := fun o => gcell (World.grownBy_alloc w1 o none); have f1 := fun o => gfree (World.grownBy_alloc w1 o none))
        | (go_at_call 23; (with_reducible refine (ratDiv_v (S + 4) (HT.out.keep (grown_trans hW H1)) h1.q (HB.out _ H1).q HZ.out (by omega) (by omega) (by omega) (by omega) (by omega)).mono ?_); rintro e w2 ⟨g12, p12, n12, c12, q12, m12, d12, rfl, h2, hn12, hm12, hg2⟩; have hz2 := hg2.size; (try simp at hz2); (try (have D0 : RBoxAt w2 (w0.heap.size) := RBoxAt.grown (by first | exact B0H.out | exact B0H.out.alloc _) hg2; obtain ⟨D0a, D0b, D0c, D0d, D0e, D0f, D0g⟩ := D0.facts; have D0H := hid D0; clear D0)); (try (have D2 : RBoxAt w2 (w1.heap.size) := RBoxAt.grown (by first | exact RBoxAt.new _) hg2; obtain ⟨D2a, D2b, D2c, D2d, D2e, D2f, D2g⟩ := D2.facts; have D2H := hid D2; clear D2)); clear k1 f1)
        | (go_at_call 23; (with_reducible refine (ratDiv_v (S + 4) (HT.out.keep (grown_trans hW (grown_trans H1 (World.grownBy_alloc _ _ _)))) (h1.keep (World.grownBy_alloc _ _ _)).q (HB.out _ (grown_trans H1 (World.grownBy_alloc _ _ _))).q HZ.out (by omega) (by omega) (by omega) (by omega) (by omega)).mono ?_); rintro e w2 ⟨g12, p12, n12, c12, q12, m12, d12, rfl, h2, hn12, hm12, hg2⟩; have hz2 := hg2.size; (try simp at hz2); (try (have D0 : RBoxAt w2 (w0.heap.size) := RBoxAt.grown (by first | exact B0H.out | exact B0H.out.alloc _) hg2; obtain ⟨D0a, D0b, D0c, D0d, D0e, D0f, D0g⟩ := D0.facts; have D0H := hid D0; clear D0)); (try (have D2 : RBoxAt w2 (w1.heap.size) := RBoxAt.grown (by first | exact RBoxAt.new _) hg2; obtain ⟨D2a, D2b, D2c, D2d, D2e, D2f, D2g⟩ := D2.facts; have D2H := hid D2; clear D2)); clear k1 f1))
    all_goals
      go_wp2_with fail
      go_meet
      have HX : w1.grownBy w2 none := by
        first
          | exact hg2
          | exact grown_trans (World.grownBy_alloc _ _ _) hg2
      have KG := grown_trans H1 HX
      have b1 : n12 ≤ 4 * S + 40 ∧ m12 ≤ 4 * S + 40 := ⟨by omega, by omega⟩
      have hz01 := H1.size
      first
        | with_reducible exact rone_alloc h2 b1 KG
        | with_reducible exact rone_set h2 b1 KG D0H.out (by omega)
        | with_reducible exact rone_set h2 b1 KG D2H.out (by omega)
  case rest =>
    obtain ⟨u, g2, p2, n2, c2, q2, m2, d2, rfl, y0, y1, y2, hQ, ⟨hn2, hm2⟩, hg⟩ := hcut
    clear HB G0 G1
    replace bx1 := (hg.block _ (lt_of_block bx1) (by simp)).trans bx1; replace hW := grown_trans hW hg
    have ff := ratbox_facts bx1; obtain ⟨l0, l1, l2, f0, f1, f2⟩ := ff
    go_wp2_with fail
    exact bodyPost_ret (v := .agg #[.bool g2, .slice p2 n2 c2, .slice q2 m2 d2]) (by simp [results, Tryz.results66, go_sem, l0, l1, l2, f0, f1, f2]) rfl
      (VPost.close bx1 (by omega) hW hQ hn2 hm2)
end Go.Proofs.YtcjoecmkkpmjmaaGreatDoor

set_option linter.unusedVariables false
set_option linter.unusedSimpArgs false
namespace Go.Proofs.YtcjoecmkkpmjmaaGreatDoor
open Go.RowKit Nm


set_option maxRecDepth 20000 in
set_option maxHeartbeats 8000000 in
theorem ivDiv_e (S : Nat) {w : World} (T : Tb w) {g1 g2 g3 g4 : Bool} {p1 q1 p2 q2 p3 q3 p4 q4 : Option Addr} {n1 c1 m1 d1 n2 c2 m2 d2 n3 c3 m3 d3 n4 c4 m4 d4 : Nat} {A B X Y : Rat} (hA : IsV w g1 p1 n1 c1 q1 m1 d1 A) (hB : IsV w g2 p2 n2 c2 q2 m2 d2 B) (hX : IsV w g3 p3 n3 c3 q3 m3 d3 X) (hY : IsV w g4 p4 n4 c4 q4 m4 d4 Y) (hn1 : n1 ≤ S) (hm1 : m1 ≤ S) (hn2 : n2 ≤ S) (hm2 : m2 ≤ S) (hn3 : n3 ≤ S) (hm3 : m3 ≤ S) (hn4 : n4 ≤ S) (hm4 : m4 ≤ S) (hS : S ≤ 1000) (HZ : Hid ((cmpR X 0 = 0 ∧ cmpR Y 0 = 0) ∨ (cmpR X 0 = -1 ∧ cmpR Y 0 = 0) ∨ (cmpR X 0 = -1 ∧ cmpR Y 0 = 1) ∨ (cmpR X 0 = 0 ∧ cmpR Y 0 = 1))) :
    Calls Tryz.prog 22 #[.agg #[.bool g1, .slice p1 n1 c1, .slice q1 m1 d1, .bool g2, .slice p2 n2 c2, .slice q2 m2 d2], .agg #[.bool g3, .slice p3 n3 c3, .slice q3 m3 d3, .bool g4, .slice p4 n4 c4, .slice q4 m4 d4]] w (WEPost w 3) := by
  have HT := hid T
  clear T
  have hW := (grown_trans (grown_trans (World.grownBy_alloc w (.cells #[.bool g1, .slice p1 n1 c1, .slice q1 m1 d1, .bool g2, .slice p2 n2 c2, .slice q2 m2 d2] 29) none) (World.grownBy_alloc _ (.cells #[.bool g3, .slice p3 n3 c3, .slice q3 m3 d3, .bool g4, .slice p4 n4 c4, .slice q4 m4 d4] 29) none)) (World.grownBy_alloc _ (.cells #[.bool false, .slice none 0 0, .slice none 0 0, .bool false, .slice none 0 0, .slice none 0 0] 29) none))
  have bx0 : (((w.alloc (.cells #[.bool g1, .slice p1 n1 c1, .slice q1 m1 d1, .bool g2, .slice p2 n2 c2, .slice q2 m2 d2] 29)).alloc (.cells #[.bool g3, .slice p3 n3 c3, .slice q3 m3 d3, .bool g4, .slice p4 n4 c4, .slice q4 m4 d4] 29)).alloc (.cells #[.bool false, .slice none 0 0, .slice none 0 0, .bool false, .slice none 0 0, .slice none 0 0] 29)).heap[w.heap.size]? = some (.cells #[.bool g1, .slice p1 n1 c1, .slice q1 m1 d1, .bool g2, .slice p2 n2 c2, .slice q2 m2 d2] 29 (0, 0)) := by
    have h0 := heap_alloc_new w (.cells #[.bool g1, .slice p1 n1 c1, .slice q1 m1 d1, .bool g2, .slice p2 n2 c2, .slice q2 m2 d2] 29)
    have h1 := (grown_trans (World.grownBy_alloc (w.alloc (.cells #[.bool g1, .slice p1 n1 c1, .slice q1 m1 d1, .bool g2, .slice p2 n2 c2, .slice q2 m2 d2] 29)) (.cells #[.bool g3, .slice p3 n3 c3, .slice q3 m3 d3, .bool g4, .slice p4 n4 c4, .slice q4 m4 d4] 29) none) (World.grownBy_alloc _ (.cells #[.bool false, .slice none 0 0, .slice none 0 0, .bool false, .slice none 0 0, .slice none 0 0] 29) none)).block _ (lt_of_block h0) (by simp)
    have h2 := h1.trans h0
    simpa using h2
  have bx1 : (((w.alloc (.cells #[.bool g1, .slice p1 n1 c1, .slice q1 m1 d1, .bool g2, .slice p2 n2 c2, .slice q2 m2 d2] 29)).alloc (.cells #[.bool g3, .slice p3 n3 c3, .slice q3 m3 d3, .bool g4, .slice p4 n4 c4, .slice q4 m4 d4] 29)).alloc (.cells #[.bool false, .slice none 0 0, .slice none 0 0, .bool false, .slice none 0 0, .slice none 0 0] 29)).heap[w.heap.size + 1]? = some (.cells #[.bool g3, .slice p3 n3 c3, .slice q3 m3 d3, .bool g4, .slice p4 n4 c4, .slice q4 m4 d4] 29 (0, 0)) := by
    have h0 := heap_alloc_new (w.alloc (.cells #[.bool g1, .slice p1 n1 c1, .slice q1 m1 d1, .bool g2, .slice p2 n2 c2, .slice q2 m2 d2] 29)) (.cells #[.bool g3, .slice p3 n3 c3, .slice q3 m3 d3, .bool g4, .slice p4 n4 c4, .slice q4 m4 d4] 29)
    have h1 := (World.grownBy_alloc ((w.alloc (.cells #[.bool g1, .slice p1 n1 c1, .slice q1 m1 d1, .bool g2, .slice p2 n2 c2, .slice q2 m2 d2] 29)).alloc (.cells #[.bool g3, .slice p3 n3 c3, .slice q3 m3 d3, .bool g4, .slice p4 n4 c4, .slice q4 m4 d4] 29)) (.cells #[.bool false, .slice none 0 0, .slice none 0 0, .bool false, .slice none 0 0, .slice none 0 0] 29) none).block _ (lt_of_block h0) (by simp)
    have h2 := h1.trans h0
    simpa using h2
  have bx2 : (((w.alloc (.cells #[.bool g1, .slice p1 n1 c1, .slice q1 m1 d1, .bool g2, .slice p2 n2 c2, .slice q2 m2 d2] 29)).alloc (.cells #[.bool g3, .slice p3 n3 c3, .slice q3 m3 d3, .bool g4, .slice p4 n4 c4, .slice q4 m4 d4] 29)).alloc (.cells #[.bool false, .slice none 0 0, .slice none 0 0, .bool false, .slice none 0 0, .slice none 0 0] 29)).heap[w.heap.size + 1 + 1]? = some (.cells #[.bool false, .slice none 0 0, .slice none 0 0, .bool false, .slice none 0 0, .slice none 0 0] 29 (0, 0)) := by
    have := heap_alloc_new ((w.alloc (.cells #[.bool g1, .slice p1 n1 c1, .slice q1 m1 d1, .bool g2, .slice p2 n2 c2, .slice q2 m2 d2] 29)).alloc (.cells #[.bool g3, .slice p3 n3 c3, .slice q3 m3 d3, .bool g4, .slice p4 n4 c4, .slice q4 m4 d4] 29)) (.cells #[.bool false, .slice none 0 0, .slice none 0 0, .bool false, .slice none 0 0, .slice none 0 0] 29)
    simpa using this
  replace hA := hA.keep hW; replace hB := hB.keep hW; replace hX := hX.keep hW; replace hY := hY.keep hW
  obtain ⟨⟨x0, x1, x2, x3, x4, x5⟩, _⟩ := ivbox_facts bx0
  obtain ⟨⟨y0, y1, y2, y3, y4, y5⟩, _⟩ := ivbox_facts bx1
  clear bx0 bx1
  go_enter Tryz.func22, Tryz.ntmps22
  go_wp2_with fail
  generalize (((w.alloc (.cells #[.bool g1, .slice p1 n1 c1, .slice q1 m1 d1, .bool g2, .slice p2 n2 c2, .slice q2 m2 d2] 29)).alloc (.cells #[.bool g3, .slice p3 n3 c3, .slice q3 m3 d3, .bool g4, .slice p4 n4 c4, .slice q4 m4 d4] 29)).alloc (.cells #[.bool false, .slice none 0 0, .slice none 0 0, .bool false, .slice none 0 0, .slice none 0 0] 29)) = w0 at *
  refine (signsOf_v S hX.q hY.q hn3 hm3 hn4 hm4 (by omega)).mono ?_
  rintro ee v1 ⟨rfl, hg⟩
  replace hA := hA.keep hg; replace hB := hB.keep hg; replace hX := hX.keep hg; replace hY := hY.keep hg
  replace x0 := hg.cell x0 (by simp); replace x1 := hg.cell x1 (by simp); replace x2 := hg.cell x2 (by simp); replace x3 := hg.cell x3 (by simp)
  replace x4 := hg.cell x4 (by simp); replace x5 := hg.cell x5 (by simp); replace y0 := hg.cell y0 (by simp); replace y1 := hg.cell y1 (by simp)
  replace y2 := hg.cell y2 (by simp); replace y3 := hg.cell y3 (by simp); replace y4 := hg.cell y4 (by simp); replace y5 := hg.cell y5 (by simp)
  replace bx2 := (hg.block _ (lt_of_block bx2) (by simp)).trans bx2; replace hW := grown_trans hW hg
  clear hg
  have hg := World.grownBy_alloc v1 (.cells #[.int .i64 (cmpR X 0), .int .i64 (cmpR Y 0)] 82) none
  have hb := heap_alloc_new v1 (.cells #[.int .i64 (cmpR X 0), .int .i64 (cmpR Y 0)] 82)
  replace hA := hA.keep hg; replace hB := hB.keep hg; replace hX := hX.keep hg; replace hY := hY.keep hg
  replace x0 := hg.cell x0 (by simp); replace x1 := hg.cell x1 (by simp); replace x2 := hg.cell x2 (by simp); replace x3 := hg.cell x3 (by simp)
  replace x4 := hg.cell x4 (by simp); replace x5 := hg.cell x5 (by simp); replace y0 := hg.cell y0 (by simp); replace y1 := hg.cell y1 (by simp)
  replace y2 := hg.cell y2 (by simp); replace y3 := hg.cell y3 (by simp); replace y4 := hg.cell y4 (by simp); replace y5 := hg.cell y5 (by simp)
  replace bx2 := (hg.block _ (lt_of_block bx2) (by simp)).trans bx2; replace hW := grown_trans hW hg
  obtain ⟨s0, s1, _, _⟩ := sgbox_facts hb
  clear hg hb
  go_upto_region 2 with fail
  generalize v1.alloc (.cells #[.int .i64 (cmpR X 0), .int .i64 (cmpR Y 0)] 82) = u1 at *
  generalize v1.heap.size = K1 at *
  go_cut [16] from 9 to 15 (fun s16 wx => s16 = .bool true ∧ u1.grownBy wx none)
  case first =>
    replace HZ := HZ.out
    rcases HZ with ⟨e1, e2⟩ | ⟨e1, e2⟩ | ⟨e1, e2⟩ | ⟨e1, e2⟩
    · rw [e1] at s0; rw [e2] at s1
      clear e1 e2
      have hg0 := grown_drew u1 none
      replace s0 := hg0.cell s0 (by simp); replace s1 := hg0.cell s1 (by simp)
      go_region_held3 (fun w' => w'.cell? ⟨K1, 0, none⟩ = some (.int .i64 0) ∧ w'.cell? ⟨K1, 1, none⟩ = some (.int .i64 0)) ((try go_split_ands) <;> (repeat' apply And.intro) <;> (repeat (first | (with_reducible assumption) | (with_reducible refine (grown_setCell _ _ _).cell ?_ (by first | (simp; omega) | simp)) | (with_reducible refine (World.grownBy_alloc _ _ none).cell ?_ (by simp)) | (with_reducible refine (grown_drew _ none).cell ?_ (by simp)))))
        (first
          | (go_at_call 65; (with_reducible refine (both_v 1).mono ?_); rintro ee v2 ⟨rfl, hg⟩; replace s0 := hg.cell s0 (by simp); replace s1 := hg.cell s1 (by simp); replace hg0 := grown_trans hg0 hg; clear hg)
          | (go_at_call 65; (with_reducible refine (both_v (-1)).mono ?_); rintro ee v3 ⟨rfl, hg⟩; replace s0 := hg.cell s0 (by simp); replace s1 := hg.cell s1 (by simp); replace hg0 := grown_trans hg0 hg; clear hg))
      go_wp2_with fail
      go_meet
      exact ⟨rfl, hg0⟩
    · rw [e1] at s0; rw [e2] at s1
      clear e1 e2
      have hg0 := grown_drew u1 none
      replace s0 := hg0.cell s0 (by simp); replace s1 := hg0.cell s1 (by simp)
      go_region_held3 (fun w' => w'.cell? ⟨K1, 0, none⟩ = some (.int .i64 (-1)) ∧ w'.cell? ⟨K1, 1, none⟩ = some (.int .i64 0)) ((try go_split_ands) <;> (repeat' apply And.intro) <;> (repeat (first | (with_reducible assumption) | (with_reducible refine (grown_setCell _ _ _).cell ?_ (by first | (simp; omega) | simp)) | (with_reducible refine (World.grownBy_alloc _ _ none).cell ?_ (by simp)) | (with_reducible refine (grown_drew _ none).cell ?_ (by simp)))))
        (first
          | (go_at_call 65; (with_reducible refine (both_v 1).mono ?_); rintro ee v2 ⟨rfl, hg⟩; replace s0 := hg.cell s0 (by simp); replace s1 := hg.cell s1 (by simp); replace hg0 := grown_trans hg0 hg; clear hg)
          | (go_at_call 65; (with_reducible refine (both_v (-1)).mono ?_); rintro ee v3 ⟨rfl, hg⟩; replace s0 := hg.cell s0 (by simp); replace s1 := hg.cell s1 (by simp); replace hg0 := grown_trans hg0 hg; clear hg))
      go_wp2_with fail
      go_meet
      exact ⟨rfl, hg0⟩
    · rw [e1] at s0; rw [e2] at s1
      clear e1 e2
      have hg0 := grown_drew u1 none
      replace s0 := hg0.cell s0 (by simp); replace s1 := hg0.cell s1 (by simp)
      go_region_held3 (fun w' => w'.cell? ⟨K1, 0, none⟩ = some (.int .i64 (-1)) ∧ w'.cell? ⟨K1, 1, none⟩ = some (.int .i64 1)) ((try go_split_ands) <;> (repeat' apply And.intro) <;> (repeat (first | (with_reducible assumption) | (with_reducible refine (grown_setCell _ _ _).cell ?_ (by first | (simp; omega) | simp)) | (with_reducible refine (World.grownBy_alloc _ _ none).cell ?_ (by simp)) | (with_reducible refine (grown_drew _ none).cell ?_ (by simp)))))
        (first
          | (go_at_call 65; (with_reducible refine (both_v 1).mono ?_); rintro ee v2 ⟨rfl, hg⟩; replace s0 := hg.cell s0 (by simp); replace s1 := hg.cell s1 (by simp); replace hg0 := grown_trans hg0 hg; clear hg)
          | (go_at_call 65; (with_reducible refine (both_v (-1)).mono ?_); rintro ee v3 ⟨rfl, hg⟩; replace s0 := hg.cell s0 (by simp); replace s1 := hg.cell s1 (by simp); replace hg0 := grown_trans hg0 hg; clear hg))
      go_wp2_with fail
      go_meet
      exact ⟨rfl, hg0⟩
    · rw [e1] at s0; rw [e2] at s1
      clear e1 e2
      have hg0 := grown_drew u1 none
      replace s0 := hg0.cell s0 (by simp); replace s1 := hg0.cell s1 (by simp)
      go_region_held3 (fun w' => w'.cell? ⟨K1, 0, none⟩ = some (.int .i64 0) ∧ w'.cell? ⟨K1, 1, none⟩ = some (.int .i64 1)) ((try go_split_ands) <;> (repeat' apply And.intro) <;> (repeat (first | (with_reducible assumption) | (with_reducible refine (grown_setCell _ _ _).cell ?_ (by first | (simp; omega) | simp)) | (with_reducible refine (World.grownBy_alloc _ _ none).cell ?_ (by simp)) | (with_reducible refine (grown_drew _ none).cell ?_ (by simp)))))
        (first
          | (go_at_call 65; (with_reducible refine (both_v 1).mono ?_); rintro ee v2 ⟨rfl, hg⟩; replace s0 := hg.cell s0 (by simp); replace s1 := hg.cell s1 (by simp); replace hg0 := grown_trans hg0 hg; clear hg)
          | (go_at_call 65; (with_reducible refine (both_v (-1)).mono ?_); rintro ee v3 ⟨rfl, hg⟩; replace s0 := hg.cell s0 (by simp); replace s1 := hg.cell s1 (by simp); replace hg0 := grown_trans hg0 hg; clear hg))
      go_wp2_with fail
      go_meet
      exact ⟨rfl, hg0⟩
  case rest =>
  obtain ⟨rfl, hg⟩ := hcut
  clear s0 s1
  replace hA := hA.keep hg; replace hB := hB.keep hg; replace hX := hX.keep hg; replace hY := hY.keep hg
  replace x0 := hg.cell x0 (by simp); replace x1 := hg.cell x1 (by simp); replace x2 := hg.cell x2 (by simp); replace x3 := hg.cell x3 (by simp)
  replace x4 := hg.cell x4 (by simp); replace x5 := hg.cell x5 (by simp); replace y0 := hg.cell y0 (by simp); replace y1 := hg.cell y1 (by simp)
  replace y2 := hg.cell y2 (by simp); replace y3 := hg.cell y3 (by simp); replace y4 := hg.cell y4 (by simp); replace y5 := hg.cell y5 (by simp)
  replace bx2 := (hg.block _ (lt_of_block bx2) (by simp)).trans bx2; replace hW := grown_trans hW hg
  clear hg
  have ff := ivbox_facts bx2; obtain ⟨⟨l0, l1, l2, l3, l4, l5⟩, f0, f1, f2, f3, f4, f5⟩ := ff
  go_wp2_with fail
  exact bodyPost_ret (v := .tuple #[.agg #[.bool false, .slice none 0 0, .slice none 0 0, .bool false, .slice none 0 0, .slice none 0 0], .int .i64 3]) (by simp [results, Tryz.results22, go_sem, l0, l1, l2, l3, l4, l5, f0, f1, f2, f3, f4, f5]) rfl
    (WEPost.close (by omega) hW _ _ _ _ _ _ _)

set_option maxRecDepth 20000 in
set_option maxHeartbeats 8000000 in
theorem ivDiv_v (S : Nat) {w : World} (T : Tb w) {g1 g2 g3 g4 : Bool} {p1 q1 p2 q2 p3 q3 p4 q4 : Option Addr} {n1 c1 m1 d1 n2 c2 m2 d2 n3 c3 m3 d3 n4 c4 m4 d4 : Nat} {A B X Y : Rat} (hA : IsV w g1 p1 n1 c1 q1 m1 d1 A) (hB : IsV w g2 p2 n2 c2 q2 m2 d2 B) (hX : IsV w g3 p3 n3 c3 q3 m3 d3 X) (hY : IsV w g4 p4 n4 c4 q4 m4 d4 Y) (hn1 : n1 ≤ S) (hm1 : m1 ≤ S) (hn2 : n2 ≤ S) (hm2 : m2 ≤ S) (hn3 : n3 ≤ S) (hm3 : m3 ≤ S) (hn4 : n4 ≤ S) (hm4 : m4 ≤ S) (h0 : X ≠ 0) (h1 : Y ≠ 0) (hS : S ≤ 1000) (HZ : Hid ((cmpR X 0 = 1 ∧ cmpR Y 0 = 1) ∨ (cmpR X 0 = -1 ∧ cmpR Y 0 = -1))) :
    Calls Tryz.prog 22 #[.agg #[.bool g1, .slice p1 n1 c1, .slice q1 m1 d1, .bool g2, .slice p2 n2 c2, .slice q2 m2 d2], .agg #[.bool g3, .slice p3 n3 c3, .slice q3 m3 d3, .bool g4, .slice p4 n4 c4, .slice q4 m4 d4]] w (WTPost w (minR (A * (((1 : Int) : Rat) / Y)) [A * (((1 : Int) : Rat) / X), B * (((1 : Int) : Rat) / Y), B * (((1 : Int) : Rat) / X)]) (maxR (A * (((1 : Int) : Rat) / Y)) [A * (((1 : Int) : Rat) / X), B * (((1 : Int) : Rat) / Y), B * (((1 : Int) : Rat) / X)]) (16 * S + 180)) := by
  have HT := hid T
  clear T
  have HX := hid h0
  have HY := hid h1
  clear h0 h1
  have hW := (grown_trans (grown_trans (World.grownBy_alloc w (.cells #[.bool g1, .slice p1 n1 c1, .slice q1 m1 d1, .bool g2, .slice p2 n2 c2, .slice q2 m2 d2] 29) none) (World.grownBy_alloc _ (.cells #[.bool g3, .slice p3 n3 c3, .slice q3 m3 d3, .bool g4, .slice p4 n4 c4, .slice q4 m4 d4] 29) none)) (World.grownBy_alloc _ (.cells #[.bool false, .slice none 0 0, .slice none 0 0, .bool false, .slice none 0 0, .slice none 0 0] 29) none))
  have bx0 : (((w.alloc (.cells #[.bool g1, .slice p1 n1 c1, .slice q1 m1 d1, .bool g2, .slice p2 n2 c2, .slice q2 m2 d2] 29)).alloc (.cells #[.bool g3, .slice p3 n3 c3, .slice q3 m3 d3, .bool g4, .slice p4 n4 c4, .slice q4 m4 d4] 29)).alloc (.cells #[.bool false, .slice none 0 0, .slice none 0 0, .bool false, .slice none 0 0, .slice none 0 0] 29)).heap[w.heap.size]? = some (.cells #[.bool g1, .slice p1 n1 c1, .slice q1 m1 d1, .bool g2, .slice p2 n2 c2, .slice q2 m2 d2] 29 (0, 0)) := by
    have h0 := heap_alloc_new w (.cells #[.bool g1, .slice p1 n1 c1, .slice q1 m1 d1, .bool g2, .slice p2 n2 c2, .slice q2 m2 d2] 29)
    have h1 := (grown_trans (World.grownBy_alloc (w.alloc (.cells #[.bool g1, .slice p1 n1 c1, .slice q1 m1 d1, .bool g2, .slice p2 n2 c2, .slice q2 m2 d2] 29)) (.cells #[.bool g3, .slice p3 n3 c3, .slice q3 m3 d3, .bool g4, .slice p4 n4 c4, .slice q4 m4 d4] 29) none) (World.grownBy_alloc _ (.cells #[.bool false, .slice none 0 0, .slice none 0 0, .bool false, .slice none 0 0, .slice none 0 0] 29) none)).block _ (lt_of_block h0) (by simp)
    have h2 := h1.trans h0
    simpa using h2
  have bx1 : (((w.alloc (.cells #[.bool g1, .slice p1 n1 c1, .slice q1 m1 d1, .bool g2, .slice p2 n2 c2, .slice q2 m2 d2] 29)).alloc (.cells #[.bool g3, .slice p3 n3 c3, .slice q3 m3 d3, .bool g4, .slice p4 n4 c4, .slice q4 m4 d4] 29)).alloc (.cells #[.bool false, .slice none 0 0, .slice none 0 0, .bool false, .slice none 0 0, .slice none 0 0] 29)).heap[w.heap.size + 1]? = some (.cells #[.bool g3, .slice p3 n3 c3, .slice q3 m3 d3, .bool g4, .slice p4 n4 c4, .slice q4 m4 d4] 29 (0, 0)) := by
    have h0 := heap_alloc_new (w.alloc (.cells #[.bool g1, .slice p1 n1 c1, .slice q1 m1 d1, .bool g2, .slice p2 n2 c2, .slice q2 m2 d2] 29)) (.cells #[.bool g3, .slice p3 n3 c3, .slice q3 m3 d3, .bool g4, .slice p4 n4 c4, .slice q4 m4 d4] 29)
    have h1 := (World.grownBy_alloc ((w.alloc (.cells #[.bool g1, .slice p1 n1 c1, .slice q1 m1 d1, .bool g2, .slice p2 n2 c2, .slice q2 m2 d2] 29)).alloc (.cells #[.bool g3, .slice p3 n3 c3, .slice q3 m3 d3, .bool g4, .slice p4 n4 c4, .slice q4 m4 d4] 29)) (.cells #[.bool false, .slice none 0 0, .slice none 0 0, .bool false, .slice none 0 0, .slice none 0 0] 29) none).block _ (lt_of_block h0) (by simp)
    have h2 := h1.trans h0
    simpa using h2
  have bx2 : (((w.alloc (.cells #[.bool g1, .slice p1 n1 c1, .slice q1 m1 d1, .bool g2, .slice p2 n2 c2, .slice q2 m2 d2] 29)).alloc (.cells #[.bool g3, .slice p3 n3 c3, .slice q3 m3 d3, .bool g4, .slice p4 n4 c4, .slice q4 m4 d4] 29)).alloc (.cells #[.bool false, .slice none 0 0, .slice none 0 0, .bool false, .slice none 0 0, .slice none 0 0] 29)).heap[w.heap.size + 1 + 1]? = some (.cells #[.bool false, .slice none 0 0, .slice none 0 0, .bool false, .slice none 0 0, .slice none 0 0] 29 (0, 0)) := by
    have := heap_alloc_new ((w.alloc (.cells #[.bool g1, .slice p1 n1 c1, .slice q1 m1 d1, .bool g2, .slice p2 n2 c2, .slice q2 m2 d2] 29)).alloc (.cells #[.bool g3, .slice p3 n3 c3, .slice q3 m3 d3, .bool g4, .slice p4 n4 c4, .slice q4 m4 d4] 29)) (.cells #[.bool false, .slice none 0 0, .slice none 0 0, .bool false, .slice none 0 0, .slice none 0 0] 29)
    simpa using this
  replace hA := hA.keep hW; replace hB := hB.keep hW; replace hX := hX.keep hW; replace hY := hY.keep hW
  obtain ⟨⟨x0, x1, x2, x3, x4, x5⟩, _⟩ := ivbox_facts bx0
  obtain ⟨⟨y0, y1, y2, y3, y4, y5⟩, _⟩ := ivbox_facts bx1
  clear bx0 bx1
  go_enter Tryz.func22, Tryz.ntmps22
  go_wp2_with fail
  generalize (((w.alloc (.cells #[.bool g1, .slice p1 n1 c1, .slice q1 m1 d1, .bool g2, .slice p2 n2 c2, .slice q2 m2 d2] 29)).alloc (.cells #[.bool g3, .slice p3 n3 c3, .slice q3 m3 d3, .bool g4, .slice p4 n4 c4, .slice q4 m4 d4] 29)).alloc (.cells #[.bool false, .slice none 0 0, .slice none 0 0, .bool false, .slice none 0 0, .slice none 0 0] 29)) = w0 at *
  refine (signsOf_v S hX.q hY.q hn3 hm3 hn4 hm4 (by omega)).mono ?_
  rintro ee v1 ⟨rfl, hg⟩
  replace hA := hA.keep hg; replace hB := hB.keep hg; replace hX := hX.keep hg; replace hY := hY.keep hg
  replace x0 := hg.cell x0 (by simp); replace x1 := hg.cell x1 (by simp); replace x2 := hg.cell x2 (by simp); replace x3 := hg.cell x3 (by simp)
  replace x4 := hg.cell x4 (by simp); replace x5 := hg.cell x5 (by simp); replace y0 := hg.cell y0 (by simp); replace y1 := hg.cell y1 (by simp)
  replace y2 := hg.cell y2 (by simp); replace y3 := hg.cell y3 (by simp); replace y4 := hg.cell y4 (by simp); replace y5 := hg.cell y5 (by simp)
  replace bx2 := (hg.block _ (lt_of_block bx2) (by simp)).trans bx2; replace hW := grown_trans hW hg
  clear hg
  have hg := World.grownBy_alloc v1 (.cells #[.int .i64 (cmpR X 0), .int .i64 (cmpR Y 0)] 82) none
  have hb := heap_alloc_new v1 (.cells #[.int .i64 (cmpR X 0), .int .i64 (cmpR Y 0)] 82)
  replace hA := hA.keep hg; replace hB := hB.keep hg; replace hX := hX.keep hg; replace hY := hY.keep hg
  replace x0 := hg.cell x0 (by simp); replace x1 := hg.cell x1 (by simp); replace x2 := hg.cell x2 (by simp); replace x3 := hg.cell x3 (by simp)
  replace x4 := hg.cell x4 (by simp); replace x5 := hg.cell x5 (by simp); replace y0 := hg.cell y0 (by simp); replace y1 := hg.cell y1 (by simp)
  replace y2 := hg.cell y2 (by simp); replace y3 := hg.cell y3 (by simp); replace y4 := hg.cell y4 (by simp); replace y5 := hg.cell y5 (by simp)
  replace bx2 := (hg.block _ (lt_of_block bx2) (by simp)).trans bx2; replace hW := grown_trans hW hg
  obtain ⟨s0, s1, _, _⟩ := sgbox_facts hb
  clear hg hb
  go_upto_region 2 with fail
  generalize v1.alloc (.cells #[.int .i64 (cmpR X 0), .int .i64 (cmpR Y 0)] 82) = u1 at *
  generalize v1.heap.size = K1 at *
  go_cut [16] from 9 to 15 (fun s16 wx => s16 = .bool false ∧ u1.grownBy wx none)
  case first =>
    replace HZ := HZ.out
    rcases HZ with ⟨e1, e2⟩ | ⟨e1, e2⟩
    · rw [e1] at s0; rw [e2] at s1
      clear e1 e2
      have hg := grown_drew u1 none
      replace s0 := hg.cell s0 (by simp); replace s1 := hg.cell s1 (by simp)
      go_region_with (first
        | (go_at_call 65; (with_reducible refine (both_v _).mono ?_); rintro ee v2 ⟨rfl, hg2⟩; have z0 := hg2.cell s0 (by simp); have z1 := hg2.cell s1 (by simp)))
      all_goals
        go_wp2_with fail
        go_meet
        exact ⟨rfl, grown_trans hg hg2⟩
    · rw [e1] at s0; rw [e2] at s1
      clear e1 e2
      have hg0 := grown_drew u1 none
      replace s0 := hg0.cell s0 (by simp); replace s1 := hg0.cell s1 (by simp)
      go_region_held3 (fun w' => w'.cell? ⟨K1, 0, none⟩ = some (.int .i64 (-1)) ∧ w'.cell? ⟨K1, 1, none⟩ = some (.int .i64 (-1))) ((try go_split_ands) <;> (repeat' apply And.intro) <;> (repeat (first | (with_reducible assumption) | (with_reducible refine (grown_setCell _ _ _).cell ?_ (by first | (simp; omega) | simp)) | (with_reducible refine (World.grownBy_alloc _ _ none).cell ?_ (by simp)) | (with_reducible refine (grown_drew _ none).cell ?_ (by simp)))))
        (first
          | (go_at_call 65; (with_reducible refine (both_v 1).mono ?_); rintro ee v2 ⟨rfl, hg⟩; replace s0 := hg.cell s0 (by simp); replace s1 := hg.cell s1 (by simp); replace hg0 := grown_trans hg0 hg; clear hg)
          | (go_at_call 65; (with_reducible refine (both_v (-1)).mono ?_); rintro ee v3 ⟨rfl, hg⟩; replace s0 := hg.cell s0 (by simp); replace s1 := hg.cell s1 (by simp); replace hg0 := grown_trans hg0 hg; clear hg))
      go_wp2_with fail
      go_meet
      exact ⟨rfl, hg0⟩
  case rest =>
  obtain ⟨rfl, hg⟩ := hcut
  clear s0 s1
  replace hA := hA.keep hg; replace hB := hB.keep hg; replace hX := hX.keep hg; replace hY := hY.keep hg
  replace x0 := hg.cell x0 (by simp); replace x1 := hg.cell x1 (by simp); replace x2 := hg.cell x2 (by simp); replace x3 := hg.cell x3 (by simp)
  replace x4 := hg.cell x4 (by simp); replace x5 := hg.cell x5 (by simp); replace y0 := hg.cell y0 (by simp); replace y1 := hg.cell y1 (by simp)
  replace y2 := hg.cell y2 (by simp); replace y3 := hg.cell y3 (by simp); replace y4 := hg.cell y4 (by simp); replace y5 := hg.cell y5 (by simp)
  replace bx2 := (hg.block _ (lt_of_block bx2) (by simp)).trans bx2; replace hW := grown_trans hW hg
  clear hg
  go_wp2_with fail
  have hg := grown_drew wc none
  replace hA := hA.keep hg; replace hB := hB.keep hg; replace hX := hX.keep hg; replace hY := hY.keep hg
  replace x0 := hg.cell x0 (by simp); replace x1 := hg.cell x1 (by simp); replace x2 := hg.cell x2 (by simp); replace x3 := hg.cell x3 (by simp)
  replace x4 := hg.cell x4 (by simp); replace x5 := hg.cell x5 (by simp); replace y0 := hg.cell y0 (by simp); replace y1 := hg.cell y1 (by simp)
  replace y2 := hg.cell y2 (by simp); replace y3 := hg.cell y3 (by simp); replace y4 := hg.cell y4 (by simp); replace y5 := hg.cell y5 (by simp)
  replace bx2 := (hg.block _ (lt_of_block bx2) (by simp)).trans bx2; replace hW := grown_trans hW hg
  clear hg
  go_region_held3 (fun w' => w'.cell? ⟨w.heap.size, 0, none⟩ = some (.bool g1) ∧ w'.cell? ⟨w.heap.size, 1, none⟩ = some (.slice p1 n1 c1) ∧ w'.cell? ⟨w.heap.size, 2, none⟩ = some (.slice q1 m1 d1) ∧ w'.cell? ⟨w.heap.size, 3, none⟩ = some (.bool g2) ∧ w'.cell? ⟨w.heap.size, 4, none⟩ = some (.slice p2 n2 c2) ∧ w'.cell? ⟨w.heap.size, 5, none⟩ = some (.slice q2 m2 d2) ∧ w'.cell? ⟨w.heap.size + 1, 0, none⟩ = some (.bool g3) ∧ w'.cell? ⟨w.heap.size + 1, 1, none⟩ = some (.slice p3 n3 c3) ∧ w'.cell? ⟨w.heap.size + 1, 2, none⟩ = some (.slice q3 m3 d3) ∧ w'.cell? ⟨w.heap.size + 1, 3, none⟩ = some (.bool g4) ∧ w'.cell? ⟨w.heap.size + 1, 4, none⟩ = some (.slice p4 n4 c4) ∧ w'.cell? ⟨w.heap.size + 1, 5, none⟩ = some (.slice q4 m4 d4)) ((try go_split_ands) <;> (repeat' apply And.intro) <;> (repeat (first | (with_reducible assumption) | (with_reducible refine (grown_setCell _ _ _).cell ?_ (by first | (simp; omega) | simp)) | (with_reducible refine (World.grownBy_alloc _ _ none).cell ?_ (by simp)) | (with_reducible refine (grown_drew _ none).cell ?_ (by simp)))))
    (first
      | (go_at_call 66; (with_reducible refine (recip_v S (HT.out.keep hW) hY HY.out hn4 hm4 (by omega)).mono ?_); rintro ee v5 ⟨g5, p5, n5, c5, q5, m5, d5, rfl, hM, hn5, hm5, hg⟩; replace hA := hA.keep hg; replace hB := hB.keep hg; replace hX := hX.keep hg; replace hY := hY.keep hg; replace x0 := hg.cell x0 (by simp); replace x1 := hg.cell x1 (by simp); replace x2 := hg.cell x2 (by simp); replace x3 := hg.cell x3 (by simp); replace x4 := hg.cell x4 (by simp); replace x5 := hg.cell x5 (by simp); replace y0 := hg.cell y0 (by simp); replace y1 := hg.cell y1 (by simp); replace y2 := hg.cell y2 (by simp); replace y3 := hg.cell y3 (by simp); replace y4 := hg.cell y4 (by simp); replace y5 := hg.cell y5 (by simp); replace bx2 := (hg.block _ (lt_of_block bx2) (by simp)).trans bx2; replace hW := grown_trans hW hg; clear hg)
      | (go_at_call 66; (with_reducible refine (recip_v S (HT.out.keep hW) hX HX.out hn3 hm3 (by omega)).mono ?_); rintro ee v6 ⟨g6, p6, n6, c6, q6, m6, d6, rfl, hN, hn6, hm6, hg⟩; replace hA := hA.keep hg; replace hB := hB.keep hg; replace hX := hX.keep hg; replace hY := hY.keep hg; replace hM := hM.keep hg; replace x0 := hg.cell x0 (by simp); replace x1 := hg.cell x1 (by simp); replace x2 := hg.cell x2 (by simp); replace x3 := hg.cell x3 (by simp); replace x4 := hg.cell x4 (by simp); replace x5 := hg.cell x5 (by simp); replace y0 := hg.cell y0 (by simp); replace y1 := hg.cell y1 (by simp); replace y2 := hg.cell y2 (by simp); replace y3 := hg.cell y3 (by simp); replace y4 := hg.cell y4 (by simp); replace y5 := hg.cell y5 (by simp); replace bx2 := (hg.block _ (lt_of_block bx2) (by simp)).trans bx2; replace hW := grown_trans hW hg; clear hg)
      | (go_at_call 19; (with_reducible refine (ivMul_v (4 * S + 40) (HT.out.keep hW) hA hB hM hN (by omega) (by omega) (by omega) (by omega) (by omega) (by omega) (by omega) (by omega) (by omega)).mono ?_); rintro ee v9 ⟨g9, g10, p9, q9, p10, q10, n9, c9, m9, d9, n10, c10, m10, d10, rfl, hR, hS2, b1, b2, hg⟩; replace hA := hA.keep hg; replace hB := hB.keep hg; replace hX := hX.keep hg; replace hY := hY.keep hg; replace hM := hM.keep hg; replace hN := hN.keep hg; replace x0 := hg.cell x0 (by simp); replace x1 := hg.cell x1 (by simp); replace x2 := hg.cell x2 (by simp); replace x3 := hg.cell x3 (by simp); replace x4 := hg.cell x4 (by simp); replace x5 := hg.cell x5 (by simp); replace y0 := hg.cell y0 (by simp); replace y1 := hg.cell y1 (by simp); replace y2 := hg.cell y2 (by simp); replace y3 := hg.cell y3 (by simp); replace y4 := hg.cell y4 (by simp); replace y5 := hg.cell y5 (by simp); replace bx2 := (hg.block _ (lt_of_block bx2) (by simp)).trans bx2; replace hW := grown_trans hW hg; clear hg; have ff := ivbox_facts bx2; obtain ⟨⟨l0, l1, l2, l3, l4, l5⟩, f0, f1, f2, f3, f4, f5⟩ := ff))
  go_wp2_with fail
  exact bodyPost_ret (v := .tuple #[.agg #[.bool g9, .slice p9 n9 c9, .slice q9 m9 d9, .bool g10, .slice p10 n10 c10, .slice q10 m10 d10], .int .i64 0]) (by simp [results, Tryz.results22, go_sem, l0, l1, l2, l3, l4, l5, f0, f1, f2, f3, f4, f5]) rfl
    (WTPost.close bx2 (by omega) hW hR hS2 ⟨by omega, by omega⟩ ⟨by omega, by omega⟩)


end Go.Proofs.YtcjoecmkkpmjmaaGreatDoor
