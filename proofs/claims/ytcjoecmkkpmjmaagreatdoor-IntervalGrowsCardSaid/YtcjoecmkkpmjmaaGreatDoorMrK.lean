/-
  IvO IvP IvQ, in one text.
-/
import Derived.Test.YtcjoecmkkpmjmaaGreatDoorMrN
import Derived.Test.YtcjoecmkkpmjmaaGreatDoorMrH

set_option linter.unusedVariables false
set_option linter.unusedSimpArgs false
namespace Go.Proofs.YtcjoecmkkpmjmaaGreatDoor
open Go.RowKit Nm

/-- two new numbers, in new structs -/
def RPairB (A B : Rat) (b : Nat) (w0 : World) (s7 s8 : Value) (wx : World) : Prop :=
  RPair A B b w0 s7 s8 wx ∧ (∀ a, s7 = .pointer (some a) → w0.heap.size ≤ a.block) ∧ (∀ a, s8 = .pointer (some a) → w0.heap.size ≤ a.block)

set_option maxRecDepth 20000 in
set_option maxHeartbeats 8000000 in
theorem ivSquare_in (S : Nat) {w : World} (T : Tb w) {g1 g2 : Bool} {p1 q1 p2 q2 : Option Addr} {n1 c1 m1 d1 n2 c2 m2 d2 : Nat} {A B : Rat} (hA : IsV w g1 p1 n1 c1 q1 m1 d1 A) (hB : IsV w g2 p2 n2 c2 q2 m2 d2 B) (hn1 : n1 ≤ S) (hm1 : m1 ≤ S) (hn2 : n2 ≤ S) (hm2 : m2 ≤ S) (hS : S ≤ 1000) (h1 : cmpR A 0 = -1) (h2 : cmpR B 0 = 1) :
    Calls Tryz.prog 21 #[.agg #[.bool g1, .slice p1 n1 c1, .slice q1 m1 d1, .bool g2, .slice p2 n2 c2, .slice q2 m2 d2]] w (WPost w (minR ((0 : Int) : Rat) [A * A, B * B]) (maxR ((0 : Int) : Rat) [A * A, B * B]) (4 * S + 20)) := by
  have HT := hid T
  clear T
  have e1 := hid h1
  have e2 := hid h2
  clear h1 h2
  have hW := (grown_trans (World.grownBy_alloc w (.cells #[.bool g1, .slice p1 n1 c1, .slice q1 m1 d1, .bool g2, .slice p2 n2 c2, .slice q2 m2 d2] 29) none) (World.grownBy_alloc _ (.cells #[.bool false, .slice none 0 0, .slice none 0 0, .bool false, .slice none 0 0, .slice none 0 0] 29) none))
  have bx0 : ((w.alloc (.cells #[.bool g1, .slice p1 n1 c1, .slice q1 m1 d1, .bool g2, .slice p2 n2 c2, .slice q2 m2 d2] 29)).alloc (.cells #[.bool false, .slice none 0 0, .slice none 0 0, .bool false, .slice none 0 0, .slice none 0 0] 29)).heap[w.heap.size]? = some (.cells #[.bool g1, .slice p1 n1 c1, .slice q1 m1 d1, .bool g2, .slice p2 n2 c2, .slice q2 m2 d2] 29 (0, 0)) := by
    have h0 := heap_alloc_new w (.cells #[.bool g1, .slice p1 n1 c1, .slice q1 m1 d1, .bool g2, .slice p2 n2 c2, .slice q2 m2 d2] 29)
    have h1 := (World.grownBy_alloc (w.alloc (.cells #[.bool g1, .slice p1 n1 c1, .slice q1 m1 d1, .bool g2, .slice p2 n2 c2, .slice q2 m2 d2] 29)) (.cells #[.bool false, .slice none 0 0, .slice none 0 0, .bool false, .slice none 0 0, .slice none 0 0] 29) none).block _ (lt_of_block h0) (by simp)
    have h2 := h1.trans h0
    simpa using h2
  have bx1 : ((w.alloc (.cells #[.bool g1, .slice p1 n1 c1, .slice q1 m1 d1, .bool g2, .slice p2 n2 c2, .slice q2 m2 d2] 29)).alloc (.cells #[.bool false, .slice none 0 0, .slice none 0 0, .bool false, .slice none 0 0, .slice none 0 0] 29)).heap[w.heap.size + 1]? = some (.cells #[.bool false, .slice none 0 0, .slice none 0 0, .bool false, .slice none 0 0, .slice none 0 0] 29 (0, 0)) := by
    have := heap_alloc_new (w.alloc (.cells #[.bool g1, .slice p1 n1 c1, .slice q1 m1 d1, .bool g2, .slice p2 n2 c2, .slice q2 m2 d2] 29)) (.cells #[.bool false, .slice none 0 0, .slice none 0 0, .bool false, .slice none 0 0, .slice none 0 0] 29)
    simpa using this
  replace hA := hA.keep hW; replace hB := hB.keep hW
  obtain ⟨⟨x0, x1, x2, x3, x4, x5⟩, _⟩ := ivbox_facts bx0
  clear bx0
  go_enter Tryz.func21, Tryz.ntmps21
  go_upto_region 1 with fail
  generalize ((w.alloc (.cells #[.bool g1, .slice p1 n1 c1, .slice q1 m1 d1, .bool g2, .slice p2 n2 c2, .slice q2 m2 d2] 29)).alloc (.cells #[.bool false, .slice none 0 0, .slice none 0 0, .bool false, .slice none 0 0, .slice none 0 0] 29)) = w0 at *
  have hlt0 := lt_of_block bx1
  have HC1 := hid (fun W (h : w0.grownBy W none) => ratMul_v S (HT.out.keep (grown_trans hW h)) (hA.keep h).q (hA.keep h).q (by omega) (by omega) (by omega) (by omega) (by omega))
  have HC2 := hid (fun W (h : w0.grownBy W none) => ratMul_v S (HT.out.keep (grown_trans hW h)) (hB.keep h).q (hB.keep h).q (by omega) (by omega) (by omega) (by omega) (by omega))
  unfold VPost at HC1 HC2
  have G0 : w0.grownBy w0.drew none := grown_drew _ _
  have G1 : ∀ o, w0.grownBy (w0.alloc o).drew none := fun o => grown_trans (World.grownBy_alloc _ _ _) (grown_drew _ _)
  have G2 : ∀ o o', w0.grownBy ((w0.alloc o).alloc o').drew none := fun o o' => grown_trans (grown_trans (World.grownBy_alloc _ _ _) (World.grownBy_alloc _ _ _)) (grown_drew _ _)
  go_cut [3, 4] from 5 to 14 (fun s7 s8 wx => RPairB (A * A) (B * B) (4 * S + 20) w0 s7 s8 wx)
  case first =>
    go_region_held3 (fun w' => w'.cell? ⟨w.heap.size, 0, none⟩ = some (.bool g1) ∧ w'.cell? ⟨w.heap.size, 1, none⟩ = some (.slice p1 n1 c1) ∧ w'.cell? ⟨w.heap.size, 2, none⟩ = some (.slice q1 m1 d1) ∧ w'.cell? ⟨w.heap.size, 3, none⟩ = some (.bool g2) ∧ w'.cell? ⟨w.heap.size, 4, none⟩ = some (.slice p2 n2 c2) ∧ w'.cell? ⟨w.heap.size, 5, none⟩ = some (.slice q2 m2 d2)) ((try go_split_ands) <;> (repeat' apply And.intro) <;> (repeat (first | (with_reducible assumption) | (with_reducible refine (grown_setCell _ _ _).cell ?_ (by simp; omega)) | (with_reducible refine (World.grownBy_alloc _ _ none).cell ?_ (by simp)) | (with_reducible refine hg2.cell ?_ (by simp)) | (with_reducible refine hg1.cell ?_ (by simp)) | (with_reducible refine (grown_drew _ none).cell ?_ (by simp)))))
      (first
        | (go_at_call 20; (with_reducible refine (HC1.out _ (by first | exact G0 | exact G1 _ | exact G2 _ _)).mono ?_); rintro e w1 ⟨g11, p11, n11, c11, q11, m11, d11, rfl, h1, hn11, hm11, hg1⟩; have hz1 := hg1.size; (try simp at hz1); have H1 : w0.grownBy w1 none := grown_trans (by first | exact G0 | exact G1 _ | exact G2 _ _) hg1; have hs1 := H1.size; (try (have B0 : RBoxAt w1 (w0.heap.size) := RBoxAt.grown (by first | exact (RBoxAt.new _).drew | exact ((RBoxAt.new _).alloc _).drew) hg1; obtain ⟨B0a, B0b, B0c, B0d, B0e, B0f, B0g⟩ := B0.facts; have B0H := hid B0; clear B0)); (try (have B1 : RBoxAt w1 (w0.heap.size + 1) := RBoxAt.grown (by first | exact (RBoxAt.new2 _ _).drew) hg1; obtain ⟨B1a, B1b, B1c, B1d, B1e, B1f, B1g⟩ := B1.facts; have B1H := hid B1; clear B1)); have k1 := fun o => gcell (World.grownBy_alloc w1 o none); have f1 := fun o => gfree (World.grownBy_alloc w1 o none))
        | (go_at_call 20; (with_reducible refine (HC2.out _ (by first | exact H1 | exact grown_trans H1 (World.grownBy_alloc _ _ _) | exact grown_trans (grown_trans H1 (World.grownBy_alloc _ _ _)) (World.grownBy_alloc _ _ _))).mono ?_); rintro e w2 ⟨g12, p12, n12, c12, q12, m12, d12, rfl, h2, hn12, hm12, hg2⟩; have hz2 := hg2.size; (try simp at hz2); (try (have D0 : RBoxAt w2 (w0.heap.size) := RBoxAt.grown (by first | exact B0H.out | exact B0H.out.alloc _ | exact (B0H.out.alloc _).alloc _) hg2; obtain ⟨D0a, D0b, D0c, D0d, D0e, D0f, D0g⟩ := D0.facts; have D0H := hid D0; clear D0)); (try (have D1 : RBoxAt w2 (w0.heap.size + 1) := RBoxAt.grown (by first | exact B1H.out) hg2; obtain ⟨D1a, D1b, D1c, D1d, D1e, D1f, D1g⟩ := D1.facts; have D1H := hid D1; clear D1)); (try (have D2 : RBoxAt w2 (w1.heap.size) := RBoxAt.grown (by first | exact RBoxAt.new _ | exact (RBoxAt.new _).alloc _) hg2; obtain ⟨D2a, D2b, D2c, D2d, D2e, D2f, D2g⟩ := D2.facts; have D2H := hid D2; clear D2)); (try (have D3 : RBoxAt w2 (w1.heap.size + 1) := RBoxAt.grown (by first | exact RBoxAt.new2 _ _) hg2; obtain ⟨D3a, D3b, D3c, D3d, D3e, D3f, D3g⟩ := D3.facts; have D3H := hid D3; clear D3)); clear k1 f1; have k2 := fun o => gcell (World.grownBy_alloc w2 o none); have f2 := fun o => gfree (World.grownBy_alloc w2 o none); (try have e01 : w0.heap.size ≠ w1.heap.size := by omega); (try have e10 : w1.heap.size ≠ w0.heap.size := by omega); (try have e02 : w0.heap.size ≠ w2.heap.size := by omega); (try have e12 : w1.heap.size ≠ w2.heap.size := by omega); (try have e20 : w2.heap.size ≠ w0.heap.size := by omega); (try have e21 : w2.heap.size ≠ w1.heap.size := by omega)))
    all_goals
      go_wp2_with fail
      go_meet
      have HX : w1.grownBy w2 none := by
        first
          | exact hg2
          | exact grown_trans (World.grownBy_alloc _ _ _) hg2
          | exact grown_trans (grown_trans (World.grownBy_alloc _ _ _) (World.grownBy_alloc _ _ _)) hg2
      have K1 := h1.keep HX
      have K2 := h2
      have KG := grown_trans H1 HX
      have b1 : n11 ≤ 4 * S + 20 ∧ m11 ≤ 4 * S + 20 := ⟨by omega, by omega⟩
      have b2 : n12 ≤ 4 * S + 20 ∧ m12 ≤ 4 * S + 20 := ⟨by omega, by omega⟩
      have hz01 := H1.size
      have hzz := KG.size
      refine ⟨?_, fun a e => by cases e; dsimp only; omega, fun a e => by cases e; dsimp only; omega⟩
      first
        | with_reducible exact rleaf_alloc K1 K2 b1 b2 KG
        | with_reducible exact rleaf_alloc' K1 K2 b1 b2 KG
        | with_reducible exact rleaf_set1 K1 K2 b1 b2 KG D0H.out (by omega)
        | with_reducible exact rleaf_set1 K1 K2 b1 b2 KG D2H.out (by omega)
        | with_reducible exact rleaf_set2 K1 K2 b1 b2 KG D0H.out (by omega)
        | with_reducible exact rleaf_set2 K1 K2 b1 b2 KG D2H.out (by omega)
        | with_reducible exact rleaf_sets K1 K2 b1 b2 KG D0H.out D1H.out (by omega) (by omega) (by omega)
        | with_reducible exact rleaf_sets K1 K2 b1 b2 KG D1H.out D0H.out (by omega) (by omega) (by omega)
        | with_reducible exact rleaf_sets K1 K2 b1 b2 KG D2H.out D3H.out (by omega) (by omega) (by omega)
        | with_reducible exact rleaf_sets K1 K2 b1 b2 KG D3H.out D2H.out (by omega) (by omega) (by omega)
        | with_reducible exact rleaf_sets K1 K2 b1 b2 KG D0H.out D2H.out (by omega) (by omega) (by omega)
        | with_reducible exact rleaf_sets K1 K2 b1 b2 KG D2H.out D0H.out (by omega) (by omega) (by omega)
  case rest =>
    obtain ⟨⟨u, v, g3, g4, p3, p4, q3, q4, n3, c3, m3, d3, n4, c4, m4, d4, rfl, rfl, y0, y1, y2, z0, z1, z2, hP, hQ, ⟨hn3, hm3⟩, ⟨hn4, hm4⟩, hg⟩, hu, hv⟩ := hcut
    have hu2 := hu _ rfl
    have hv2 := hv _ rfl
    dsimp only at hu2 hv2
    clear hu hv
    clear HC1 HC2 G0 G1 G2
    replace hA := hA.keep hg; replace hB := hB.keep hg; replace x0 := hg.cell x0 (by simp); replace x1 := hg.cell x1 (by simp)
    replace x2 := hg.cell x2 (by simp); replace x3 := hg.cell x3 (by simp); replace x4 := hg.cell x4 (by simp); replace x5 := hg.cell x5 (by simp)
    replace bx1 := (hg.block _ (lt_of_block bx1) (by simp)).trans bx1; replace hW := grown_trans hW hg
    clear hg
    go_wp2_with fail
    refine (signsOf_v S hA.q hB.q hn1 hm1 hn2 hm2 (by omega)).mono ?_
    rintro ee v1 ⟨rfl, hg⟩
    replace hA := hA.keep hg; replace hB := hB.keep hg; replace hP := hP.keep hg; replace hQ := hQ.keep hg
    replace x0 := hg.cell x0 (by simp); replace x1 := hg.cell x1 (by simp); replace x2 := hg.cell x2 (by simp); replace x3 := hg.cell x3 (by simp)
    replace x4 := hg.cell x4 (by simp); replace x5 := hg.cell x5 (by simp); replace y0 := hg.cell y0 (by simp); replace y1 := hg.cell y1 (by simp)
    replace y2 := hg.cell y2 (by simp); replace z0 := hg.cell z0 (by simp); replace z1 := hg.cell z1 (by simp); replace z2 := hg.cell z2 (by simp)
    replace bx1 := (hg.block _ (lt_of_block bx1) (by simp)).trans bx1; replace hW := grown_trans hW hg
    clear hg
    rw [e1.out, e2.out]
    go_wp2_with fail
    have G0 : v1.grownBy v1.drew none := grown_drew _ _
    have G1 : ∀ o, v1.grownBy (v1.alloc o).drew none := fun o => grown_trans (World.grownBy_alloc _ _ _) (grown_drew _ _)
    have hbl : ((v1.alloc (.cells #[.bool g3, .slice p3 n3 c3, .slice q3 m3 d3, .bool g4, .slice p4 n4 c4, .slice q4 m4 d4] 27)).drew).heap[v1.heap.size]? = some (.cells #[.bool g3, .slice p3 n3 c3, .slice q3 m3 d3, .bool g4, .slice p4 n4 c4, .slice q4 m4 d4] 27 (0, 0)) := heap_alloc_new v1 (.cells #[.bool g3, .slice p3 n3 c3, .slice q3 m3 d3, .bool g4, .slice p4 n4 c4, .slice q4 m4 d4] 27)
    have HSZ := hid (show ∀ r ∈ ([⟨g3, p3, n3, c3, q3, m3, d3, A * A⟩, ⟨g4, p4, n4, c4, q4, m4, d4, B * B⟩] : List RV), r.n ≤ 4 * S + 20 ∧ r.m ≤ 4 * S + 20 from two_sz ⟨hn3, hm3⟩ ⟨hn4, hm4⟩)
    go_region_held3 (fun w' => w'.cell? ⟨u, 0, none⟩ = some (.bool g3) ∧ w'.cell? ⟨u, 1, none⟩ = some (.slice p3 n3 c3) ∧ w'.cell? ⟨u, 2, none⟩ = some (.slice q3 m3 d3) ∧ w'.cell? ⟨v, 0, none⟩ = some (.bool g4) ∧ w'.cell? ⟨v, 1, none⟩ = some (.slice p4 n4 c4) ∧ w'.cell? ⟨v, 2, none⟩ = some (.slice q4 m4 d4)) ((try go_split_ands) <;> (repeat' apply And.intro) <;> (repeat (first | (with_reducible assumption) | (with_reducible refine (grown_setCell _ _ _).cell ?_ (by simp; omega)) | (with_reducible refine (World.grownBy_alloc _ _ none).cell ?_ (by simp)) | (with_reducible refine hg2.cell ?_ (by simp)) | (with_reducible refine hg1.cell ?_ (by simp)) | (with_reducible refine (grown_drew _ none).cell ?_ (by simp)))))
      (first
        | (go_at_call 29; (with_reducible refine (ratOf_v 0 _ (by omega) (by omega)).mono ?_); rintro e w1 ⟨g5, p5, n5, c5, q5, m5, d5, rfl, h1, hn5, hm5, hg1⟩; have H1 : v1.grownBy w1 none := grown_trans (by first | exact G0 | exact G1 _) hg1; (try (have BL : w1.heap[v1.heap.size]? = some (.cells #[.bool g3, .slice p3 n3 c3, .slice q3 m3 d3, .bool g4, .slice p4 n4 c4, .slice q4 m4 d4] 27 (0, 0)) := (hg1.block _ (lt_of_block hbl) (by simp)).trans hbl)); clear G0 G1)
        | (go_at_call 59; have hga := grown_trans H1 (World.grownBy_alloc w1 (.cells #[.bool g3, .slice p3 n3 c3, .slice q3 m3 d3, .bool g4, .slice p4 n4 c4, .slice q4 m4 d4] 27) none); have ba := heap_alloc_new w1 (.cells #[.bool g3, .slice p3 n3 c3, .slice q3 m3 d3, .bool g4, .slice p4 n4 c4, .slice q4 m4 d4] 27); have hl : RVs (w1.alloc (.cells #[.bool g3, .slice p3 n3 c3, .slice q3 m3 d3, .bool g4, .slice p4 n4 c4, .slice q4 m4 d4] 27)) w1.heap.size [⟨g3, p3, n3, c3, q3, m3, d3, A * A⟩, ⟨g4, p4, n4, c4, q4, m4, d4, B * B⟩] := rvs2 ba (IsV.keep hP hga) (IsV.keep hQ hga); (with_reducible refine (hull_v (4 * S + 20) [⟨g3, p3, n3, c3, q3, m3, d3, A * A⟩, ⟨g4, p4, n4, c4, q4, m4, d4, B * B⟩] 2 rfl (h1.keep (World.grownBy_alloc _ _ none)) hl (lt_of_block ba) HSZ.out (by omega) (by omega) (by omega) (by omega)).mono ?_); rintro e w2 ⟨g9, g10, p9, q9, p10, q10, n9, c9, m9, d9, n10, c10, m10, d10, rfl, hR, hS2, b1, b2, hg2⟩; have HXX := grown_trans hga hg2; have bxb := (HXX.block _ (lt_of_block bx1) (by simp)).trans bx1; have hWb := grown_trans hW HXX; have ff := ivbox_facts bxb; obtain ⟨⟨l0, l1, l2, l3, l4, l5⟩, f0, f1, f2, f3, f4, f5⟩ := ff)
        | (go_at_call 59; have hl : RVs w1 v1.heap.size [⟨g3, p3, n3, c3, q3, m3, d3, A * A⟩, ⟨g4, p4, n4, c4, q4, m4, d4, B * B⟩] := rvs2 BL (IsV.keep hP H1) (IsV.keep hQ H1); (with_reducible refine (hull_v (4 * S + 20) [⟨g3, p3, n3, c3, q3, m3, d3, A * A⟩, ⟨g4, p4, n4, c4, q4, m4, d4, B * B⟩] 2 rfl h1 hl (lt_of_block BL) HSZ.out (by omega) (by omega) (by omega) (by omega)).mono ?_); rintro e w2 ⟨g9, g10, p9, q9, p10, q10, n9, c9, m9, d9, n10, c10, m10, d10, rfl, hR, hS2, b1, b2, hg2⟩; have HXX := grown_trans H1 hg2; have bxb := (HXX.block _ (lt_of_block bx1) (by simp)).trans bx1; have hWb := grown_trans hW HXX; have ff := ivbox_facts bxb; obtain ⟨⟨l0, l1, l2, l3, l4, l5⟩, f0, f1, f2, f3, f4, f5⟩ := ff))
    all_goals
      go_wp2_with fail
      exact bodyPost_ret (v := .agg #[.bool g9, .slice p9 n9 c9, .slice q9 m9 d9, .bool g10, .slice p10 n10 c10, .slice q10 m10 d10]) (by simp [results, Tryz.results21, go_sem, l0, l1, l2, l3, l4, l5, f0, f1, f2, f3, f4, f5]) rfl
        (WPost.close bxb (by omega) hWb hR hS2 b1 b2)

set_option maxRecDepth 20000 in
set_option maxHeartbeats 8000000 in
theorem ivSquare_out (S : Nat) {w : World} (T : Tb w) {g1 g2 : Bool} {p1 q1 p2 q2 : Option Addr} {n1 c1 m1 d1 n2 c2 m2 d2 : Nat} {A B : Rat} (hA : IsV w g1 p1 n1 c1 q1 m1 d1 A) (hB : IsV w g2 p2 n2 c2 q2 m2 d2 B) (hn1 : n1 ≤ S) (hm1 : m1 ≤ S) (hn2 : n2 ≤ S) (hm2 : m2 ≤ S) (hS : S ≤ 1000) (hq : cmpR A 0 ≠ -1 ∨ cmpR B 0 ≠ 1) :
    Calls Tryz.prog 21 #[.agg #[.bool g1, .slice p1 n1 c1, .slice q1 m1 d1, .bool g2, .slice p2 n2 c2, .slice q2 m2 d2]] w (WPost w (minR (A * A) [B * B]) (maxR (A * A) [B * B]) (4 * S + 20)) := by
  have HT := hid T
  clear T
  have HQ := hid hq
  clear hq
  have hW := (grown_trans (World.grownBy_alloc w (.cells #[.bool g1, .slice p1 n1 c1, .slice q1 m1 d1, .bool g2, .slice p2 n2 c2, .slice q2 m2 d2] 29) none) (World.grownBy_alloc _ (.cells #[.bool false, .slice none 0 0, .slice none 0 0, .bool false, .slice none 0 0, .slice none 0 0] 29) none))
  have bx0 : ((w.alloc (.cells #[.bool g1, .slice p1 n1 c1, .slice q1 m1 d1, .bool g2, .slice p2 n2 c2, .slice q2 m2 d2] 29)).alloc (.cells #[.bool false, .slice none 0 0, .slice none 0 0, .bool false, .slice none 0 0, .slice none 0 0] 29)).heap[w.heap.size]? = some (.cells #[.bool g1, .slice p1 n1 c1, .slice q1 m1 d1, .bool g2, .slice p2 n2 c2, .slice q2 m2 d2] 29 (0, 0)) := by
    have h0 := heap_alloc_new w (.cells #[.bool g1, .slice p1 n1 c1, .slice q1 m1 d1, .bool g2, .slice p2 n2 c2, .slice q2 m2 d2] 29)
    have h1 := (World.grownBy_alloc (w.alloc (.cells #[.bool g1, .slice p1 n1 c1, .slice q1 m1 d1, .bool g2, .slice p2 n2 c2, .slice q2 m2 d2] 29)) (.cells #[.bool false, .slice none 0 0, .slice none 0 0, .bool false, .slice none 0 0, .slice none 0 0] 29) none).block _ (lt_of_block h0) (by simp)
    have h2 := h1.trans h0
    simpa using h2
  have bx1 : ((w.alloc (.cells #[.bool g1, .slice p1 n1 c1, .slice q1 m1 d1, .bool g2, .slice p2 n2 c2, .slice q2 m2 d2] 29)).alloc (.cells #[.bool false, .slice none 0 0, .slice none 0 0, .bool false, .slice none 0 0, .slice none 0 0] 29)).heap[w.heap.size + 1]? = some (.cells #[.bool false, .slice none 0 0, .slice none 0 0, .bool false, .slice none 0 0, .slice none 0 0] 29 (0, 0)) := by
    have := heap_alloc_new (w.alloc (.cells #[.bool g1, .slice p1 n1 c1, .slice q1 m1 d1, .bool g2, .slice p2 n2 c2, .slice q2 m2 d2] 29)) (.cells #[.bool false, .slice none 0 0, .slice none 0 0, .bool false, .slice none 0 0, .slice none 0 0] 29)
    simpa using this
  replace hA := hA.keep hW; replace hB := hB.keep hW
  obtain ⟨⟨x0, x1, x2, x3, x4, x5⟩, _⟩ := ivbox_facts bx0
  clear bx0
  go_enter Tryz.func21, Tryz.ntmps21
  go_upto_region 1 with fail
  generalize ((w.alloc (.cells #[.bool g1, .slice p1 n1 c1, .slice q1 m1 d1, .bool g2, .slice p2 n2 c2, .slice q2 m2 d2] 29)).alloc (.cells #[.bool false, .slice none 0 0, .slice none 0 0, .bool false, .slice none 0 0, .slice none 0 0] 29)) = w0 at *
  have hlt0 := lt_of_block bx1
  have HC1 := hid (fun W (h : w0.grownBy W none) => ratMul_v S (HT.out.keep (grown_trans hW h)) (hA.keep h).q (hA.keep h).q (by omega) (by omega) (by omega) (by omega) (by omega))
  have HC2 := hid (fun W (h : w0.grownBy W none) => ratMul_v S (HT.out.keep (grown_trans hW h)) (hB.keep h).q (hB.keep h).q (by omega) (by omega) (by omega) (by omega) (by omega))
  unfold VPost at HC1 HC2
  have G0 : w0.grownBy w0.drew none := grown_drew _ _
  have G1 : ∀ o, w0.grownBy (w0.alloc o).drew none := fun o => grown_trans (World.grownBy_alloc _ _ _) (grown_drew _ _)
  have G2 : ∀ o o', w0.grownBy ((w0.alloc o).alloc o').drew none := fun o o' => grown_trans (grown_trans (World.grownBy_alloc _ _ _) (World.grownBy_alloc _ _ _)) (grown_drew _ _)
  go_cut [3, 4] from 5 to 14 (fun s7 s8 wx => RPairB (A * A) (B * B) (4 * S + 20) w0 s7 s8 wx)
  case first =>
    go_region_held3 (fun w' => w'.cell? ⟨w.heap.size, 0, none⟩ = some (.bool g1) ∧ w'.cell? ⟨w.heap.size, 1, none⟩ = some (.slice p1 n1 c1) ∧ w'.cell? ⟨w.heap.size, 2, none⟩ = some (.slice q1 m1 d1) ∧ w'.cell? ⟨w.heap.size, 3, none⟩ = some (.bool g2) ∧ w'.cell? ⟨w.heap.size, 4, none⟩ = some (.slice p2 n2 c2) ∧ w'.cell? ⟨w.heap.size, 5, none⟩ = some (.slice q2 m2 d2)) ((try go_split_ands) <;> (repeat' apply And.intro) <;> (repeat (first | (with_reducible assumption) | (with_reducible refine (grown_setCell _ _ _).cell ?_ (by simp; omega)) | (with_reducible refine (World.grownBy_alloc _ _ none).cell ?_ (by simp)) | (with_reducible refine hg2.cell ?_ (by simp)) | (with_reducible refine hg1.cell ?_ (by simp)) | (with_reducible refine (grown_drew _ none).cell ?_ (by simp)))))
      (first
        | (go_at_call 20; (with_reducible refine (HC1.out _ (by first | exact G0 | exact G1 _ | exact G2 _ _)).mono ?_); rintro e w1 ⟨g11, p11, n11, c11, q11, m11, d11, rfl, h1, hn11, hm11, hg1⟩; have hz1 := hg1.size; (try simp at hz1); have H1 : w0.grownBy w1 none := grown_trans (by first | exact G0 | exact G1 _ | exact G2 _ _) hg1; have hs1 := H1.size; (try (have B0 : RBoxAt w1 (w0.heap.size) := RBoxAt.grown (by first | exact (RBoxAt.new _).drew | exact ((RBoxAt.new _).alloc _).drew) hg1; obtain ⟨B0a, B0b, B0c, B0d, B0e, B0f, B0g⟩ := B0.facts; have B0H := hid B0; clear B0)); (try (have B1 : RBoxAt w1 (w0.heap.size + 1) := RBoxAt.grown (by first | exact (RBoxAt.new2 _ _).drew) hg1; obtain ⟨B1a, B1b, B1c, B1d, B1e, B1f, B1g⟩ := B1.facts; have B1H := hid B1; clear B1)); have k1 := fun o => gcell (World.grownBy_alloc w1 o none); have f1 := fun o => gfree (World.grownBy_alloc w1 o none))
        | (go_at_call 20; (with_reducible refine (HC2.out _ (by first | exact H1 | exact grown_trans H1 (World.grownBy_alloc _ _ _) | exact grown_trans (grown_trans H1 (World.grownBy_alloc _ _ _)) (World.grownBy_alloc _ _ _))).mono ?_); rintro e w2 ⟨g12, p12, n12, c12, q12, m12, d12, rfl, h2, hn12, hm12, hg2⟩; have hz2 := hg2.size; (try simp at hz2); (try (have D0 : RBoxAt w2 (w0.heap.size) := RBoxAt.grown (by first | exact B0H.out | exact B0H.out.alloc _ | exact (B0H.out.alloc _).alloc _) hg2; obtain ⟨D0a, D0b, D0c, D0d, D0e, D0f, D0g⟩ := D0.facts; have D0H := hid D0; clear D0)); (try (have D1 : RBoxAt w2 (w0.heap.size + 1) := RBoxAt.grown (by first | exact B1H.out) hg2; obtain ⟨D1a, D1b, D1c, D1d, D1e, D1f, D1g⟩ := D1.facts; have D1H := hid D1; clear D1)); (try (have D2 : RBoxAt w2 (w1.heap.size) := RBoxAt.grown (by first | exact RBoxAt.new _ | exact (RBoxAt.new _).alloc _) hg2; obtain ⟨D2a, D2b, D2c, D2d, D2e, D2f, D2g⟩ := D2.facts; have D2H := hid D2; clear D2)); (try (have D3 : RBoxAt w2 (w1.heap.size + 1) := RBoxAt.grown (by first | exact RBoxAt.new2 _ _) hg2; obtain ⟨D3a, D3b, D3c, D3d, D3e, D3f, D3g⟩ := D3.facts; have D3H := hid D3; clear D3)); clear k1 f1; have k2 := fun o => gcell (World.grownBy_alloc w2 o none); have f2 := fun o => gfree (World.grownBy_alloc w2 o none); (try have e01 : w0.heap.size ≠ w1.heap.size := by omega); (try have e10 : w1.heap.size ≠ w0.heap.size := by omega); (try have e02 : w0.heap.size ≠ w2.heap.size := by omega); (try have e12 : w1.heap.size ≠ w2.heap.size := by omega); (try have e20 : w2.heap.size ≠ w0.heap.size := by omega); (try have e21 : w2.heap.size ≠ w1.heap.size := by omega)))
    all_goals
      go_wp2_with fail
      go_meet
      have HX : w1.grownBy w2 none := by
        first
          | exact hg2
          | exact grown_trans (World.grownBy_alloc _ _ _) hg2
          | exact grown_trans (grown_trans (World.grownBy_alloc _ _ _) (World.grownBy_alloc _ _ _)) hg2
      have K1 := h1.keep HX
      have K2 := h2
      have KG := grown_trans H1 HX
      have b1 : n11 ≤ 4 * S + 20 ∧ m11 ≤ 4 * S + 20 := ⟨by omega, by omega⟩
      have b2 : n12 ≤ 4 * S + 20 ∧ m12 ≤ 4 * S + 20 := ⟨by omega, by omega⟩
      have hz01 := H1.size
      have hzz := KG.size
      refine ⟨?_, fun a e => by cases e; dsimp only; omega, fun a e => by cases e; dsimp only; omega⟩
      first
        | with_reducible exact rleaf_alloc K1 K2 b1 b2 KG
        | with_reducible exact rleaf_alloc' K1 K2 b1 b2 KG
        | with_reducible exact rleaf_set1 K1 K2 b1 b2 KG D0H.out (by omega)
        | with_reducible exact rleaf_set1 K1 K2 b1 b2 KG D2H.out (by omega)
        | with_reducible exact rleaf_set2 K1 K2 b1 b2 KG D0H.out (by omega)
        | with_reducible exact rleaf_set2 K1 K2 b1 b2 KG D2H.out (by omega)
        | with_reducible exact rleaf_sets K1 K2 b1 b2 KG D0H.out D1H.out (by omega) (by omega) (by omega)
        | with_reducible exact rleaf_sets K1 K2 b1 b2 KG D1H.out D0H.out (by omega) (by omega) (by omega)
        | with_reducible exact rleaf_sets K1 K2 b1 b2 KG D2H.out D3H.out (by omega) (by omega) (by omega)
        | with_reducible exact rleaf_sets K1 K2 b1 b2 KG D3H.out D2H.out (by omega) (by omega) (by omega)
        | with_reducible exact rleaf_sets K1 K2 b1 b2 KG D0H.out D2H.out (by omega) (by omega) (by omega)
        | with_reducible exact rleaf_sets K1 K2 b1 b2 KG D2H.out D0H.out (by omega) (by omega) (by omega)
  case rest =>
    obtain ⟨⟨u, v, g3, g4, p3, p4, q3, q4, n3, c3, m3, d3, n4, c4, m4, d4, rfl, rfl, y0, y1, y2, z0, z1, z2, hP, hQ, ⟨hn3, hm3⟩, ⟨hn4, hm4⟩, hg⟩, hu, hv⟩ := hcut
    have hu2 := hu _ rfl
    have hv2 := hv _ rfl
    dsimp only at hu2 hv2
    clear hu hv
    clear HC1 HC2 G0 G1 G2
    replace hA := hA.keep hg; replace hB := hB.keep hg; replace x0 := hg.cell x0 (by simp); replace x1 := hg.cell x1 (by simp)
    replace x2 := hg.cell x2 (by simp); replace x3 := hg.cell x3 (by simp); replace x4 := hg.cell x4 (by simp); replace x5 := hg.cell x5 (by simp)
    replace bx1 := (hg.block _ (lt_of_block bx1) (by simp)).trans bx1; replace hW := grown_trans hW hg
    clear hg
    go_wp2_with fail
    refine (signsOf_v S hA.q hB.q hn1 hm1 hn2 hm2 (by omega)).mono ?_
    rintro ee v1 ⟨rfl, hg⟩
    replace hA := hA.keep hg; replace hB := hB.keep hg; replace hP := hP.keep hg; replace hQ := hQ.keep hg
    replace x0 := hg.cell x0 (by simp); replace x1 := hg.cell x1 (by simp); replace x2 := hg.cell x2 (by simp); replace x3 := hg.cell x3 (by simp)
    replace x4 := hg.cell x4 (by simp); replace x5 := hg.cell x5 (by simp); replace y0 := hg.cell y0 (by simp); replace y1 := hg.cell y1 (by simp)
    replace y2 := hg.cell y2 (by simp); replace z0 := hg.cell z0 (by simp); replace z1 := hg.cell z1 (by simp); replace z2 := hg.cell z2 (by simp)
    replace bx1 := (hg.block _ (lt_of_block bx1) (by simp)).trans bx1; replace hW := grown_trans hW hg
    clear hg
    have my0 := y0; have my1 := y1; have my2 := y2; have mz0 := z0; have mz1 := z1; have mz2 := z2
    have hg := World.grownBy_alloc v1 (.cells #[.bool g4, .slice p4 n4 c4, .slice q4 m4 d4] 27) none
    have ba := heap_alloc_new v1 (.cells #[.bool g4, .slice p4 n4 c4, .slice q4 m4 d4] 27)
    have hw1 := hW.size
    replace hA := hA.keep hg; replace hB := hB.keep hg; replace hP := hP.keep hg; replace hQ := hQ.keep hg
    replace x0 := hg.cell x0 (by simp); replace x1 := hg.cell x1 (by simp); replace x2 := hg.cell x2 (by simp); replace x3 := hg.cell x3 (by simp)
    replace x4 := hg.cell x4 (by simp); replace x5 := hg.cell x5 (by simp); replace y0 := hg.cell y0 (by simp); replace y1 := hg.cell y1 (by simp)
    replace y2 := hg.cell y2 (by simp); replace z0 := hg.cell z0 (by simp); replace z1 := hg.cell z1 (by simp); replace z2 := hg.cell z2 (by simp)
    replace bx1 := (hg.block _ (lt_of_block bx1) (by simp)).trans bx1; replace hW := grown_trans hW hg
    clear hg
    have hl : RVs (v1.alloc (.cells #[.bool g4, .slice p4 n4 c4, .slice q4 m4 d4] 27)) v1.heap.size [⟨g4, p4, n4, c4, q4, m4, d4, B * B⟩] := rvs1 ba hQ
    have HSZ := hid (show ∀ r ∈ ([⟨g4, p4, n4, c4, q4, m4, d4, B * B⟩] : List RV), r.n ≤ 4 * S + 20 ∧ r.m ≤ 4 * S + 20 from one_sz ⟨hn4, hm4⟩)
    have hGa := lt_of_block ba
    generalize cmpR A 0 = sa at *
    generalize cmpR B 0 = sb at *
    rcases HQ.out with hq | hq
    · go_wp2_with fail
      generalize v1.alloc (.cells #[.bool g4, .slice p4 n4 c4, .slice q4 m4 d4] 27) = vb at *
      generalize v1.heap.size = K1 at *
      refine (hull_v (4 * S + 20) [⟨g4, p4, n4, c4, q4, m4, d4, B * B⟩] 1 rfl hP hl hGa HSZ.out (by omega) (by omega) (by omega) (by omega)).mono ?_
      rintro e w2 ⟨g9, g10, p9, q9, p10, q10, n9, c9, m9, d9, n10, c10, m10, d10, rfl, hR, hS2, b1, b2, hg⟩
      replace hA := hA.keep hg; replace hB := hB.keep hg; replace hP := hP.keep hg; replace hQ := hQ.keep hg
      replace x0 := hg.cell x0 (by simp); replace x1 := hg.cell x1 (by simp); replace x2 := hg.cell x2 (by simp); replace x3 := hg.cell x3 (by simp)
      replace x4 := hg.cell x4 (by simp); replace x5 := hg.cell x5 (by simp); replace y0 := hg.cell y0 (by simp); replace y1 := hg.cell y1 (by simp)
      replace y2 := hg.cell y2 (by simp); replace z0 := hg.cell z0 (by simp); replace z1 := hg.cell z1 (by simp); replace z2 := hg.cell z2 (by simp)
      replace bx1 := (hg.block _ (lt_of_block bx1) (by simp)).trans bx1; replace hW := grown_trans hW hg
      clear hg
      have ff := ivbox_facts bx1; obtain ⟨⟨l0, l1, l2, l3, l4, l5⟩, f0, f1, f2, f3, f4, f5⟩ := ff
      go_wp2_with fail
      exact bodyPost_ret (v := .agg #[.bool g9, .slice p9 n9 c9, .slice q9 m9 d9, .bool g10, .slice p10 n10 c10, .slice q10 m10 d10]) (by simp [results, Tryz.results21, go_sem, l0, l1, l2, l3, l4, l5, f0, f1, f2, f3, f4, f5]) rfl
        (WPost.close bx1 (by omega) hW hR hS2 b1 b2)
    · go_wp2_with fail
      generalize v1.alloc (.cells #[.bool g4, .slice p4 n4 c4, .slice q4 m4 d4] 27) = vb at *
      generalize v1.heap.size = K1 at *
      refine (hull_v (4 * S + 20) [⟨g4, p4, n4, c4, q4, m4, d4, B * B⟩] 1 rfl hP hl hGa HSZ.out (by omega) (by omega) (by omega) (by omega)).mono ?_
      rintro e w2 ⟨g9, g10, p9, q9, p10, q10, n9, c9, m9, d9, n10, c10, m10, d10, rfl, hR, hS2, b1, b2, hg⟩
      replace hA := hA.keep hg; replace hB := hB.keep hg; replace hP := hP.keep hg; replace hQ := hQ.keep hg
      replace x0 := hg.cell x0 (by simp); replace x1 := hg.cell x1 (by simp); replace x2 := hg.cell x2 (by simp); replace x3 := hg.cell x3 (by simp)
      replace x4 := hg.cell x4 (by simp); replace x5 := hg.cell x5 (by simp); replace y0 := hg.cell y0 (by simp); replace y1 := hg.cell y1 (by simp)
      replace y2 := hg.cell y2 (by simp); replace z0 := hg.cell z0 (by simp); replace z1 := hg.cell z1 (by simp); replace z2 := hg.cell z2 (by simp)
      replace bx1 := (hg.block _ (lt_of_block bx1) (by simp)).trans bx1; replace hW := grown_trans hW hg
      clear hg
      have ff := ivbox_facts bx1; obtain ⟨⟨l0, l1, l2, l3, l4, l5⟩, f0, f1, f2, f3, f4, f5⟩ := ff
      go_wp2_with fail
      exact bodyPost_ret (v := .agg #[.bool g9, .slice p9 n9 c9, .slice q9 m9 d9, .bool g10, .slice p10 n10 c10, .slice q10 m10 d10]) (by simp [results, Tryz.results21, go_sem, l0, l1, l2, l3, l4, l5, f0, f1, f2, f3, f4, f5]) rfl
        (WPost.close bx1 (by omega) hW hR hS2 b1 b2)
end Go.Proofs.YtcjoecmkkpmjmaaGreatDoor

set_option linter.unusedVariables false
set_option linter.unusedSimpArgs false
namespace Go.Proofs.YtcjoecmkkpmjmaaGreatDoor
open Go.RowKit Nm

abbrev IZ : Obj := .cells #[.bool false, .slice none 0 0, .slice none 0 0, .bool false, .slice none 0 0, .slice none 0 0] 29
/-- block u is a new struct of the type api.Interval -/
def IBoxAt (w : World) (u : Nat) : Prop := w.heap[u]? = some (.cells #[.bool false, .slice none 0 0, .slice none 0 0, .bool false, .slice none 0 0, .slice none 0 0] 29 (0, 0))
theorem IBoxAt.new (w : World) : IBoxAt (w.alloc (.cells #[.bool false, .slice none 0 0, .slice none 0 0, .bool false, .slice none 0 0, .slice none 0 0] 29)) w.heap.size := heap_alloc_new w _
theorem IBoxAt.grown {w w' : World} {u : Nat} (h : IBoxAt w u) (hg : w.grownBy w' none) : IBoxAt w' u := (hg.block u (lt_of_block h) (by simp)).trans h
theorem IBoxAt.alloc {w : World} {u : Nat} (h : IBoxAt w u) (o : Obj) : IBoxAt (w.alloc o) u := h.grown (World.grownBy_alloc w o none)
theorem IBoxAt.drew {w : World} {u : Nat} (h : IBoxAt w u) : IBoxAt w.drew u := h
theorem IBoxAt.new2 (w : World) (o : Obj) : IBoxAt ((w.alloc o).alloc (.cells #[.bool false, .slice none 0 0, .slice none 0 0, .bool false, .slice none 0 0, .slice none 0 0] 29)) (w.heap.size + 1) := by
  have := IBoxAt.new (w.alloc o)
  simpa using this
/-- what the walk wants of a new struct -/
def IFacts (w : World) (u : Nat) : Prop := (w.cell? ⟨u, 0, none⟩ = some (.bool false) ∧ w.cell? ⟨u, 1, none⟩ = some (.slice none 0 0) ∧ w.cell? ⟨u, 2, none⟩ = some (.slice none 0 0) ∧ w.cell? ⟨u, 3, none⟩ = some (.bool false) ∧ w.cell? ⟨u, 4, none⟩ = some (.slice none 0 0) ∧ w.cell? ⟨u, 5, none⟩ = some (.slice none 0 0)) ∧ (w.frozen? ⟨u, 0, none⟩ = false ∧ w.frozen? ⟨u, 1, none⟩ = false ∧ w.frozen? ⟨u, 2, none⟩ = false ∧ w.frozen? ⟨u, 3, none⟩ = false ∧ w.frozen? ⟨u, 4, none⟩ = false ∧ w.frozen? ⟨u, 5, none⟩ = false) ∧ u < w.heap.size
theorem IBoxAt.facts {w : World} {u : Nat} (h : IBoxAt w u) : IFacts w u := ⟨(ivbox_facts h).1, (ivbox_facts h).2, lt_of_block h⟩

theorem set6_block {w2 : World} {u : Nat} {x x2 : Bool} {y z y2 z2 : Option Addr} {a b e f a2 b2 e2 f2 : Nat} {T : TypeId} (hb : w2.heap[u]? = some (.cells #[.bool x, .slice y a b, .slice z e f, .bool x2, .slice y2 a2 b2, .slice z2 e2 f2] T (0, 0))) (g1 g2 : Bool) (p1 q1 p2 q2 : Option Addr) (n1 c1 m1 d1 n2 c2 m2 d2 : Nat) :
    ((((((w2.setCell ⟨u, 0, none⟩ (.bool g1)).setCell ⟨u, 1, none⟩ (.slice p1 n1 c1)).setCell ⟨u, 2, none⟩ (.slice q1 m1 d1)).setCell ⟨u, 3, none⟩ (.bool g2)).setCell ⟨u, 4, none⟩ (.slice p2 n2 c2)).setCell ⟨u, 5, none⟩ (.slice q2 m2 d2)).heap[u]? = some (.cells #[.bool g1, .slice p1 n1 c1, .slice q1 m1 d1, .bool g2, .slice p2 n2 c2, .slice q2 m2 d2] T (0, 0)) := by
  have h1 := heap_setCell_same w2 u 0 _ _ (.bool g1) hb
  have h2 := heap_setCell_same _ u 1 _ _ (.slice p1 n1 c1) h1
  have h3 := heap_setCell_same _ u 2 _ _ (.slice q1 m1 d1) h2
  have h4 := heap_setCell_same _ u 3 _ _ (.bool g2) h3
  have h5 := heap_setCell_same _ u 4 _ _ (.slice p2 n2 c2) h4
  have h6 := heap_setCell_same _ u 5 _ _ (.slice q2 m2 d2) h5
  rw [h6]
  simp
theorem set3of6_block {w2 : World} {u : Nat} {x x2 : Bool} {y z y2 z2 : Option Addr} {a b e f a2 b2 e2 f2 : Nat} {T : TypeId} (hb : w2.heap[u]? = some (.cells #[.bool x, .slice y a b, .slice z e f, .bool x2, .slice y2 a2 b2, .slice z2 e2 f2] T (0, 0))) (g1 : Bool) (p1 q1 : Option Addr) (n1 c1 m1 d1 : Nat) :
    (((w2.setCell ⟨u, 0, none⟩ (.bool g1)).setCell ⟨u, 1, none⟩ (.slice p1 n1 c1)).setCell ⟨u, 2, none⟩ (.slice q1 m1 d1)).heap[u]? = some (.cells #[.bool g1, .slice p1 n1 c1, .slice q1 m1 d1, .bool x2, .slice y2 a2 b2, .slice z2 e2 f2] T (0, 0)) := by
  have h1 := heap_setCell_same w2 u 0 _ _ (.bool g1) hb
  have h2 := heap_setCell_same _ u 1 _ _ (.slice p1 n1 c1) h1
  have h3 := heap_setCell_same _ u 2 _ _ (.slice q1 m1 d1) h2
  rw [h3]
  simp

/-- a new struct that holds an interval -/
def IOne (lo hi : Rat) (b : Nat) (w0 : World) (s : Value) (wx : World) : Prop :=
  ∃ (u : Nat) (g1 g2 : Bool) (p1 q1 p2 q2 : Option Addr) (n1 c1 m1 d1 n2 c2 m2 d2 : Nat), s = .pointer (some ⟨u, 0, none⟩) ∧
    wx.heap[u]? = some (.cells #[.bool g1, .slice p1 n1 c1, .slice q1 m1 d1, .bool g2, .slice p2 n2 c2, .slice q2 m2 d2] 29 (0, 0)) ∧
    IsV wx g1 p1 n1 c1 q1 m1 d1 lo ∧ IsV wx g2 p2 n2 c2 q2 m2 d2 hi ∧ (n1 ≤ b ∧ m1 ≤ b) ∧ (n2 ≤ b ∧ m2 ≤ b) ∧ w0.heap.size ≤ u ∧ w0.grownBy wx none
section
variable {lo hi : Rat} {b : Nat} {w0 w2 : World} {g1 g2 : Bool} {p1 q1 p2 q2 : Option Addr} {n1 c1 m1 d1 n2 c2 m2 d2 u : Nat}
theorem ione_alloc (h1 : IsV w2 g1 p1 n1 c1 q1 m1 d1 lo) (h2 : IsV w2 g2 p2 n2 c2 q2 m2 d2 hi) (b1 : n1 ≤ b ∧ m1 ≤ b) (b2 : n2 ≤ b ∧ m2 ≤ b) (hg : w0.grownBy w2 none) :
    IOne lo hi b w0 (.pointer (some ⟨w2.heap.size, 0, none⟩)) (w2.alloc (.cells #[.bool g1, .slice p1 n1 c1, .slice q1 m1 d1, .bool g2, .slice p2 n2 c2, .slice q2 m2 d2] 29)) := by
  have hA := World.grownBy_alloc w2 (.cells #[.bool g1, .slice p1 n1 c1, .slice q1 m1 d1, .bool g2, .slice p2 n2 c2, .slice q2 m2 d2] 29) none
  exact ⟨_, g1, g2, p1, q1, p2, q2, n1, c1, m1, d1, n2, c2, m2, d2, rfl, heap_alloc_new w2 _, h1.keep hA, h2.keep hA, b1, b2, hg.size, grown_trans hg hA⟩
theorem ione_set (h1 : IsV w2 g1 p1 n1 c1 q1 m1 d1 lo) (h2 : IsV w2 g2 p2 n2 c2 q2 m2 d2 hi) (b1 : n1 ≤ b ∧ m1 ≤ b) (b2 : n2 ≤ b ∧ m2 ≤ b) (hg : w0.grownBy w2 none) (hb : IBoxAt w2 u) (hu : w0.heap.size ≤ u) :
    IOne lo hi b w0 (.pointer (some ⟨u, 0, none⟩)) ((((((w2.setCell ⟨u, 0, none⟩ (.bool g1)).setCell ⟨u, 1, none⟩ (.slice p1 n1 c1)).setCell ⟨u, 2, none⟩ (.slice q1 m1 d1)).setCell ⟨u, 3, none⟩ (.bool g2)).setCell ⟨u, 4, none⟩ (.slice p2 n2 c2)).setCell ⟨u, 5, none⟩ (.slice q2 m2 d2)) := by
  have hs := set6_grown w2 u (.bool g1) (.slice p1 n1 c1) (.slice q1 m1 d1) (.bool g2) (.slice p2 n2 c2) (.slice q2 m2 d2)
  exact ⟨_, g1, g2, p1, q1, p2, q2, n1, c1, m1, d1, n2, c2, m2, d2, rfl, set6_block hb g1 g2 p1 q1 p2 q2 n1 c1 m1 d1 n2 c2 m2 d2, h1.other6 hb hs, h2.other6 hb hs, b1, b2, hu, grown_new hg hs (fun g e => by cases e; exact hu)⟩
end


end Go.Proofs.YtcjoecmkkpmjmaaGreatDoor

set_option linter.unusedVariables false
set_option linter.unusedSimpArgs false
namespace Go.Proofs.YtcjoecmkkpmjmaaGreatDoor
open Go.RowKit Nm

theorem sqr_nonneg (x : Rat) : 0 ≤ x * x := by
  by_cases h : 0 ≤ x
  · exact Rat.mul_nonneg h h
  · have h1 : 0 ≤ -x := by grind
    have := Rat.mul_nonneg h1 h1
    grind
/-- the ends of the square -/
def sqLo (A B : Rat) : Rat := if inI A B ((0 : Int) : Rat) then ((0 : Int) : Rat) else minR (A * A) [B * B]
def sqHi (A B : Rat) : Rat := maxR (A * A) [B * B]
theorem z0 : ((0 : Int) : Rat) = 0 := rfl
theorem inI_zero {A B : Rat} : inI A B ((0 : Int) : Rat) = true ↔ A ≤ 0 ∧ 0 ≤ B := by
  unfold inI
  rw [z0]
  exact decide_eq_true_iff
theorem sq_in_lo {A B : Rat} (hA : A < 0) (hB : 0 < B) : minR ((0 : Int) : Rat) [A * A, B * B] = sqLo A B := by
  have h : inI A B ((0 : Int) : Rat) = true := inI_zero.2 ⟨by grind, by grind⟩
  have a1 := sqr_nonneg A
  have b1 := sqr_nonneg B
  unfold sqLo
  rw [if_pos h, z0]
  show (if B * B < (if A * A < 0 then A * A else 0) then B * B else (if A * A < 0 then A * A else 0)) = 0
  rw [if_neg (show ¬ A * A < 0 by grind), if_neg (show ¬ B * B < 0 by grind)]
theorem sq_in_hi {A B : Rat} : maxR ((0 : Int) : Rat) [A * A, B * B] = sqHi A B := by
  have a1 := sqr_nonneg A
  have b1 := sqr_nonneg B
  unfold sqHi
  rw [z0]
  show (if (if 0 < A * A then A * A else 0) < B * B then B * B else (if 0 < A * A then A * A else 0)) = (if A * A < B * B then B * B else A * A)
  by_cases h : 0 < A * A
  · rw [if_pos h]
  · have h0 : A * A = 0 := by grind
    rw [if_neg h, h0]
theorem sq_out_lo {A B : Rat} (h : ¬ (A < 0 ∧ 0 < B)) : minR (A * A) [B * B] = sqLo A B := by
  have a1 := sqr_nonneg A
  have b1 := sqr_nonneg B
  unfold sqLo
  by_cases k : inI A B ((0 : Int) : Rat) = true
  · rw [if_pos k, z0]
    obtain ⟨k1, k2⟩ := inI_zero.1 k
    show (if B * B < A * A then B * B else A * A) = 0
    by_cases hA : A = 0
    · subst hA
      rw [Rat.zero_mul]
      rw [if_neg (by grind)]
    · have hB : B = 0 := by
        by_cases hB : B = 0
        · exact hB
        · exact absurd ⟨by grind, by grind⟩ h
      subst hB
      rw [Rat.zero_mul]
      by_cases hh : 0 < A * A
      · rw [if_pos hh]
      · rw [if_neg hh]; grind
  · rw [if_neg k]
theorem sgn_lt {v : Rat} (h : v < 0) : cmpR v 0 = -1 := cmpR_lt h
theorem sgn_gt {v : Rat} (h : 0 < v) : cmpR v 0 = 1 := cmpR_gt h
theorem sgn_cases (v : Rat) : (v < 0 ∧ cmpR v 0 = -1) ∨ (v = 0 ∧ cmpR v 0 = 0) ∨ (0 < v ∧ cmpR v 0 = 1) := by
  by_cases h : v < 0
  · exact Or.inl ⟨h, sgn_lt h⟩
  · by_cases k : 0 < v
    · exact Or.inr (Or.inr ⟨k, sgn_gt k⟩)
    · have : v = 0 := by grind
      exact Or.inr (Or.inl ⟨this, cmpR_zero.2 this⟩)
theorem ivSquare_v (S : Nat) {w : World} (T : Tb w) {g1 g2 : Bool} {p1 q1 p2 q2 : Option Addr} {n1 c1 m1 d1 n2 c2 m2 d2 : Nat} {A B : Rat} (hA : IsV w g1 p1 n1 c1 q1 m1 d1 A) (hB : IsV w g2 p2 n2 c2 q2 m2 d2 B) (hle : A ≤ B) (hn1 : n1 ≤ S) (hm1 : m1 ≤ S) (hn2 : n2 ≤ S) (hm2 : m2 ≤ S) (hS : S ≤ 900) :
    Calls Tryz.prog 21 #[.agg #[.bool g1, .slice p1 n1 c1, .slice q1 m1 d1, .bool g2, .slice p2 n2 c2, .slice q2 m2 d2]] w (WPost w (sqLo A B) (sqHi A B) (4 * S + 20)) := by
  by_cases h : A < 0 ∧ 0 < B
  · have := ivSquare_in S T hA hB hn1 hm1 hn2 hm2 (by omega) (sgn_lt h.1) (sgn_gt h.2)
    rw [sq_in_lo h.1 h.2, sq_in_hi] at this
    exact this
  · have hq : cmpR A 0 ≠ -1 ∨ cmpR B 0 ≠ 1 := by
      rcases sgn_cases A with ⟨a, e⟩ | ⟨a, e⟩ | ⟨a, e⟩
      · rcases sgn_cases B with ⟨b, f⟩ | ⟨b, f⟩ | ⟨b, f⟩
        · exact Or.inr (by omega)
        · exact Or.inr (by omega)
        · exact absurd ⟨a, b⟩ h
      · exact Or.inl (by omega)
      · exact Or.inl (by omega)
    have := ivSquare_out S T hA hB hn1 hm1 hn2 hm2 (by omega) hq
    rw [sq_out_lo h] at this
    exact this
theorem signs_e {X Y : Rat} (h : inI X Y ((0 : Int) : Rat) = true) : (cmpR X 0 = 0 ∧ cmpR Y 0 = 0) ∨ (cmpR X 0 = -1 ∧ cmpR Y 0 = 0) ∨ (cmpR X 0 = -1 ∧ cmpR Y 0 = 1) ∨ (cmpR X 0 = 0 ∧ cmpR Y 0 = 1) := by
  obtain ⟨h1, h2⟩ := inI_zero.1 h
  rcases sgn_cases X with ⟨a, e⟩ | ⟨a, e⟩ | ⟨a, e⟩
  · rcases sgn_cases Y with ⟨b, f⟩ | ⟨b, f⟩ | ⟨b, f⟩
    · exact absurd b (by grind)
    · exact Or.inr (Or.inl ⟨e, f⟩)
    · exact Or.inr (Or.inr (Or.inl ⟨e, f⟩))
  · rcases sgn_cases Y with ⟨b, f⟩ | ⟨b, f⟩ | ⟨b, f⟩
    · exact absurd b (by grind)
    · exact Or.inl ⟨e, f⟩
    · exact Or.inr (Or.inr (Or.inr ⟨e, f⟩))
  · exact absurd a (by grind)
theorem signs_v {X Y : Rat} (hle : X ≤ Y) (h : inI X Y ((0 : Int) : Rat) = false) : ((cmpR X 0 = 1 ∧ cmpR Y 0 = 1) ∨ (cmpR X 0 = -1 ∧ cmpR Y 0 = -1)) ∧ X ≠ 0 ∧ Y ≠ 0 := by
  have hn : ¬ (X ≤ 0 ∧ 0 ≤ Y) := fun k => by rw [inI_zero.2 k] at h; cases h
  rcases sgn_cases X with ⟨a, e⟩ | ⟨a, e⟩ | ⟨a, e⟩
  · rcases sgn_cases Y with ⟨b, f⟩ | ⟨b, f⟩ | ⟨b, f⟩
    · exact ⟨Or.inr ⟨e, f⟩, by grind, by grind⟩
    · exact absurd ⟨by grind, by grind⟩ hn
    · exact absurd ⟨by grind, by grind⟩ hn
  · exact absurd ⟨by grind, by grind⟩ hn
  · exact ⟨Or.inl ⟨e, sgn_gt (by grind)⟩, by grind, by grind⟩

theorem IW.rt.keep {x : IW} {w w' : World} {r : Bool} (h : x.rt w r) (hg : w.grownBy w' none) : x.rt w' r := fun hok W hW => h hok W (grown_trans hg hW)
def IW.cells (x : IW) : List Value := [.bool x.g1, .slice x.p1 x.n1 x.c1, .slice x.q1 x.m1 x.d1, .bool x.g2, .slice x.p2 x.n2 x.c2, .slice x.q2 x.m2 x.d2]
theorem small4_two (a b : IW) (ra rb : Bool) (w : World) (G : Nat) (hG : G = w.heap.size) (ha : a.rt w ra) (hb : b.rt w rb) :
    Calls Tryz.prog 6 #[.slice (some ⟨G, 0, none⟩) 2 2] (w.alloc (.cells #[.bool a.g1, .slice a.p1 a.n1 a.c1, .slice a.q1 a.m1 a.d1, .bool a.g2, .slice a.p2 a.n2 a.c2, .slice a.q2 a.m2 a.d2, .bool b.g1, .slice b.p1 b.n1 b.c1, .slice b.q1 b.m1 b.d1, .bool b.g2, .slice b.p2 b.n2 b.c2, .slice b.q2 b.m2 b.d2] 29)) fun e w' =>
      e = .returned (.bool (decide ((a.ok ∧ ra = true) ∧ b.ok ∧ rb = true))) ∧ w.grownBy w' none := by
  subst hG
  have hg := World.grownBy_alloc w (.cells #[.bool a.g1, .slice a.p1 a.n1 a.c1, .slice a.q1 a.m1 a.d1, .bool a.g2, .slice a.p2 a.n2 a.c2, .slice a.q2 a.m2 a.d2, .bool b.g1, .slice b.p1 b.n1 b.c1, .slice b.q1 b.m1 b.d1, .bool b.g2, .slice b.p2 b.n2 b.c2, .slice b.q2 b.m2 b.d2] 29) none
  have hbk := heap_alloc_new w (.cells #[.bool a.g1, .slice a.p1 a.n1 a.c1, .slice a.q1 a.m1 a.d1, .bool a.g2, .slice a.p2 a.n2 a.c2, .slice a.q2 a.m2 a.d2, .bool b.g1, .slice b.p1 b.n1 b.c1, .slice b.q1 b.m1 b.d1, .bool b.g2, .slice b.p2 b.n2 b.c2, .slice b.q2 b.m2 b.d2] 29)
  generalize w.alloc _ = w1 at *
  have k0 := cell_of_row w1 w.heap.size 0 _ _ _ hbk
  have k1 := cell_of_row w1 w.heap.size 1 _ _ _ hbk
  have k2 := cell_of_row w1 w.heap.size 2 _ _ _ hbk
  have k3 := cell_of_row w1 w.heap.size 3 _ _ _ hbk
  have k4 := cell_of_row w1 w.heap.size 4 _ _ _ hbk
  have k5 := cell_of_row w1 w.heap.size 5 _ _ _ hbk
  have k6 := cell_of_row w1 w.heap.size 6 _ _ _ hbk
  have k7 := cell_of_row w1 w.heap.size 7 _ _ _ hbk
  have k8 := cell_of_row w1 w.heap.size 8 _ _ _ hbk
  have k9 := cell_of_row w1 w.heap.size 9 _ _ _ hbk
  have k10 := cell_of_row w1 w.heap.size 10 _ _ _ hbk
  have k11 := cell_of_row w1 w.heap.size 11 _ _ _ hbk
  simp at k0 k1 k2 k3 k4 k5 k6 k7 k8 k9 k10 k11
  have := small4_any w.heap.size 2 [a, b] (fun j => if j = 0 then ra else rb) w1 (by simp) (fun j hj => by
    match j, hj with
    | 0, _ => exact ⟨⟨k0, k1, k2, k3, k4, k5⟩, ha.keep hg⟩
    | 1, _ => exact ⟨⟨k6, k7, k8, k9, k10, k11⟩, hb.keep hg⟩)
  refine this.mono fun e w' ⟨h1, h2⟩ => ⟨h1.trans (congrArg Ending.returned (congrArg Value.bool (decide_eq_decide.2 ⟨fun h => ⟨h 0 (by simp), h 1 (by simp)⟩, fun h j hj => ?_⟩))), grown_trans hg h2⟩
  match j, hj with
  | 0, _ => exact h.1
  | 1, _ => exact h.2
end Go.Proofs.YtcjoecmkkpmjmaaGreatDoor
