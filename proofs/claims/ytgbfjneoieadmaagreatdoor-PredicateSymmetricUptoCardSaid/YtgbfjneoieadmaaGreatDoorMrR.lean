/-
  RatR, in one text.
-/
import Derived.Test.YtgbfjneoieadmaaGreatDoorMrO
import Derived.Test.YtgbfjneoieadmaaGreatDoorMrA

set_option linter.unusedVariables false
set_option linter.unusedSimpArgs false
namespace Go.Proofs.YtgbfjneoieadmaaGreatDoor
open Go.RowKit Nm

theorem over_v (B : Nat) {w : World} {g : Bool} {p q : Option Addr} {n c m d D : Nat} {N : Int} {v : Rat} (hA : IsZ w g p n c N) (hB : IsN w q m d D) (hv : mkRat N D = v) (hn : n ≤ B) (hm : m + 4 ≤ B) (hx : B ≤ 300000) :
    Calls Tryz.prog 123 #[.agg #[.bool g, .slice p n c], .slice q m d] w (VPost w v B) :=
  (over_any hA hB (by omega) (by omega)).mono fun _ _ h => h.v (by rw [rn_q (pd_pos D), pq, hv]) (by rw [rd_q (pd_pos D), pq, hv]) hn hm
theorem norm_v (S : Nat) {w : World} {g1 : Bool} {p1 q1 : Option Addr} {n1 c1 m1 d1 : Nat} {v : Rat} (hA : IsQ w g1 p1 n1 c1 q1 m1 d1 v) (hn1 : n1 ≤ S) (hm1 : m1 ≤ S) (hS : S ≤ 40000) :
    Calls Tryz.prog 108 #[.agg #[.bool g1, .slice p1 n1 c1, .slice q1 m1 d1]] w (VPost w v (S + 4)) := by
  obtain ⟨N, D, h1, h2, rfl⟩ := hA
  exact (norm3_any h1 h2 (by omega) (by omega)).mono fun _ _ h => h.v (by rw [rn_q (pd_pos D), pq]) (by rw [rd_q (pd_pos D), pq]) (by omega) (by omega)
theorem wholeT_any {w : World} (p : Option Addr) (n c : Nat) :
    Calls Tryz.prog 122 #[.slice p n c] w fun e w' => e = .returned (.agg #[.bool false, .slice p n c]) ∧ w.grownBy w' none := by
  go_enter Tryz.func122, Tryz.ntmps122
  go_wp2
  exact bodyPost_ret (v := .agg #[.bool false, .slice p n c]) (by simp [results, Tryz.results122, go_sem]) rfl ⟨rfl, World.grownBy_alloc w _ none⟩

set_option maxRecDepth 20000 in
set_option maxHeartbeats 4000000 in
theorem rNeg3_v (S : Nat) {w : World} {g1 : Bool} {p1 q1 : Option Addr} {n1 c1 m1 d1 : Nat} {v : Rat} (hA : IsQ w g1 p1 n1 c1 q1 m1 d1 v) (hn1 : n1 ≤ S) (hm1 : m1 ≤ S) (hS : S ≤ 40000) :
    Calls Tryz.prog 125 #[.agg #[.bool g1, .slice p1 n1 c1, .slice q1 m1 d1]] w (VPost w (-v) (S + 4)) := by
  obtain ⟨N, D, hA, hE, rfl⟩ := hA
  have HV := hid (show mkRat (-N) D = -mkRat N D from (Rat.neg_mkRat N D).symm)
  have hW := (grown_trans (World.grownBy_alloc w (.cells #[.bool g1, .slice p1 n1 c1, .slice q1 m1 d1] 27) none) (World.grownBy_alloc _ (.cells #[.bool false, .slice none 0 0, .slice none 0 0] 27) none))
  have bx0 : ((w.alloc (.cells #[.bool g1, .slice p1 n1 c1, .slice q1 m1 d1] 27)).alloc (.cells #[.bool false, .slice none 0 0, .slice none 0 0] 27)).heap[w.heap.size]? = some (.cells #[.bool g1, .slice p1 n1 c1, .slice q1 m1 d1] 27 (0, 0)) := by
    have h0 := heap_alloc_new w (.cells #[.bool g1, .slice p1 n1 c1, .slice q1 m1 d1] 27)
    have h1 := (World.grownBy_alloc (w.alloc (.cells #[.bool g1, .slice p1 n1 c1, .slice q1 m1 d1] 27)) (.cells #[.bool false, .slice none 0 0, .slice none 0 0] 27) none).block _ (lt_of_block h0) (by simp)
    have h2 := h1.trans h0
    simpa using h2
  obtain ⟨x0, x1, x2, _, _, _⟩ := ratbox_facts bx0
  clear bx0
  have bx1 : ((w.alloc (.cells #[.bool g1, .slice p1 n1 c1, .slice q1 m1 d1] 27)).alloc (.cells #[.bool false, .slice none 0 0, .slice none 0 0] 27)).heap[w.heap.size + 1]? = some (.cells #[.bool false, .slice none 0 0, .slice none 0 0] 27 (0, 0)) := by
    have := heap_alloc_new (w.alloc (.cells #[.bool g1, .slice p1 n1 c1, .slice q1 m1 d1] 27)) (.cells #[.bool false, .slice none 0 0, .slice none 0 0] 27)
    simpa using this
  replace hA := hA.keep hW; replace hE := hE.keep hW
  go_enter Tryz.func125, Tryz.ntmps125
  go_wp2_with fail
  generalize ((w.alloc (.cells #[.bool g1, .slice p1 n1 c1, .slice q1 m1 d1] 27)).alloc (.cells #[.bool false, .slice none 0 0, .slice none 0 0] 27)) = w0 at *
  have hg := grown_drew w0 none
  replace hA := hA.keep hg; replace hE := hE.keep hg; replace x0 := hg.cell x0 (by simp); replace x1 := hg.cell x1 (by simp)
  replace x2 := hg.cell x2 (by simp); replace bx1 := (hg.block _ (lt_of_block bx1) (by simp)).trans bx1; replace hW := grown_trans hW hg
  clear hg
  go_region_held3 (fun w' => w'.cell? ⟨w.heap.size, 0, none⟩ = some (.bool g1) ∧ w'.cell? ⟨w.heap.size, 1, none⟩ = some (.slice p1 n1 c1) ∧ w'.cell? ⟨w.heap.size, 2, none⟩ = some (.slice q1 m1 d1)) ((try go_split_ands) <;> (repeat' apply And.intro) <;> (repeat (first | (with_reducible assumption) | (with_reducible refine (grown_setCell _ _ _).cell ?_ (by first | (simp; omega) | simp)) | (with_reducible refine (World.grownBy_alloc _ _ none).cell ?_ (by simp)) | (with_reducible refine (grown_drew _ none).cell ?_ (by simp)))))
    (first
      | (go_at_call 141; (with_reducible refine (rNeg_any hA (by omega)).mono ?_); rintro ee v1 ⟨g5, p5, n5, c5, rfl, hX, hn5, hg⟩; replace hA := hA.keep hg; replace hE := hE.keep hg; replace x0 := hg.cell x0 (by simp); replace x1 := hg.cell x1 (by simp); replace x2 := hg.cell x2 (by simp); replace bx1 := (hg.block _ (lt_of_block bx1) (by simp)).trans bx1; replace hW := grown_trans hW hg; clear hg)
      | (go_at_call 123; (with_reducible refine (over_v (S + 4) hX.z hE HV.out (by omega) (by omega) (by omega)).mono ?_); rintro ee v2 ⟨g6, p6, n6, c6, q6, m6, d6, rfl, hZ, hn6, hm6, hg⟩; replace hA := hA.keep hg; replace hE := hE.keep hg; replace hX := hX.keep hg; replace x0 := hg.cell x0 (by simp); replace x1 := hg.cell x1 (by simp); replace x2 := hg.cell x2 (by simp); replace bx1 := (hg.block _ (lt_of_block bx1) (by simp)).trans bx1; replace hW := grown_trans hW hg; clear hg; have ff := ratbox_facts bx1; obtain ⟨l0, l1, l2, f0, f1, f2⟩ := ff))
  go_wp2_with fail
  exact bodyPost_ret (v := .agg #[.bool g6, .slice p6 n6 c6, .slice q6 m6 d6]) (by simp [results, Tryz.results125, go_sem, l0, l1, l2, f0, f1, f2]) rfl
    (VPost.close bx1 (by omega) hW hZ hn6 hm6)

set_option maxRecDepth 20000 in
set_option maxHeartbeats 4000000 in
theorem rMul3_v (S : Nat) {w : World} {g1 g2 : Bool} {p1 q1 p2 q2 : Option Addr} {n1 c1 m1 d1 n2 c2 m2 d2 : Nat} {v u : Rat} (hA : IsQ w g1 p1 n1 c1 q1 m1 d1 v) (hB : IsQ w g2 p2 n2 c2 q2 m2 d2 u) (hn1 : n1 ≤ S) (hm1 : m1 ≤ S) (hn2 : n2 ≤ S) (hm2 : m2 ≤ S) (hS : S ≤ 40000) :
    Calls Tryz.prog 92 #[.agg #[.bool g1, .slice p1 n1 c1, .slice q1 m1 d1], .agg #[.bool g2, .slice p2 n2 c2, .slice q2 m2 d2]] w (VPost w (v * u) (4 * S + 20)) := by
  obtain ⟨N, D, hA, hE, rfl⟩ := hA
  obtain ⟨M, E, hB, hF, rfl⟩ := hB
  have HV := hid (show mkRat (N * M) (D * E) = mkRat N D * mkRat M E from (Rat.mkRat_mul_mkRat N M D E).symm)
  have hW := (grown_trans (grown_trans (World.grownBy_alloc w (.cells #[.bool g1, .slice p1 n1 c1, .slice q1 m1 d1] 27) none) (World.grownBy_alloc _ (.cells #[.bool g2, .slice p2 n2 c2, .slice q2 m2 d2] 27) none)) (World.grownBy_alloc _ (.cells #[.bool false, .slice none 0 0, .slice none 0 0] 27) none))
  have bx0 : (((w.alloc (.cells #[.bool g1, .slice p1 n1 c1, .slice q1 m1 d1] 27)).alloc (.cells #[.bool g2, .slice p2 n2 c2, .slice q2 m2 d2] 27)).alloc (.cells #[.bool false, .slice none 0 0, .slice none 0 0] 27)).heap[w.heap.size]? = some (.cells #[.bool g1, .slice p1 n1 c1, .slice q1 m1 d1] 27 (0, 0)) := by
    have h0 := heap_alloc_new w (.cells #[.bool g1, .slice p1 n1 c1, .slice q1 m1 d1] 27)
    have h1 := (grown_trans (World.grownBy_alloc (w.alloc (.cells #[.bool g1, .slice p1 n1 c1, .slice q1 m1 d1] 27)) (.cells #[.bool g2, .slice p2 n2 c2, .slice q2 m2 d2] 27) none) (World.grownBy_alloc _ (.cells #[.bool false, .slice none 0 0, .slice none 0 0] 27) none)).block _ (lt_of_block h0) (by simp)
    have h2 := h1.trans h0
    simpa using h2
  obtain ⟨x0, x1, x2, _, _, _⟩ := ratbox_facts bx0
  clear bx0
  have bx1 : (((w.alloc (.cells #[.bool g1, .slice p1 n1 c1, .slice q1 m1 d1] 27)).alloc (.cells #[.bool g2, .slice p2 n2 c2, .slice q2 m2 d2] 27)).alloc (.cells #[.bool false, .slice none 0 0, .slice none 0 0] 27)).heap[w.heap.size + 1]? = some (.cells #[.bool g2, .slice p2 n2 c2, .slice q2 m2 d2] 27 (0, 0)) := by
    have h0 := heap_alloc_new (w.alloc (.cells #[.bool g1, .slice p1 n1 c1, .slice q1 m1 d1] 27)) (.cells #[.bool g2, .slice p2 n2 c2, .slice q2 m2 d2] 27)
    have h1 := (World.grownBy_alloc ((w.alloc (.cells #[.bool g1, .slice p1 n1 c1, .slice q1 m1 d1] 27)).alloc (.cells #[.bool g2, .slice p2 n2 c2, .slice q2 m2 d2] 27)) (.cells #[.bool false, .slice none 0 0, .slice none 0 0] 27) none).block _ (lt_of_block h0) (by simp)
    have h2 := h1.trans h0
    simpa using h2
  obtain ⟨y0, y1, y2, _, _, _⟩ := ratbox_facts bx1
  clear bx1
  have bx2 : (((w.alloc (.cells #[.bool g1, .slice p1 n1 c1, .slice q1 m1 d1] 27)).alloc (.cells #[.bool g2, .slice p2 n2 c2, .slice q2 m2 d2] 27)).alloc (.cells #[.bool false, .slice none 0 0, .slice none 0 0] 27)).heap[w.heap.size + 1 + 1]? = some (.cells #[.bool false, .slice none 0 0, .slice none 0 0] 27 (0, 0)) := by
    have := heap_alloc_new ((w.alloc (.cells #[.bool g1, .slice p1 n1 c1, .slice q1 m1 d1] 27)).alloc (.cells #[.bool g2, .slice p2 n2 c2, .slice q2 m2 d2] 27)) (.cells #[.bool false, .slice none 0 0, .slice none 0 0] 27)
    simpa using this
  replace hA := hA.keep hW; replace hE := hE.keep hW; replace hB := hB.keep hW; replace hF := hF.keep hW
  go_enter Tryz.func92, Tryz.ntmps92
  go_wp2_with fail
  generalize (((w.alloc (.cells #[.bool g1, .slice p1 n1 c1, .slice q1 m1 d1] 27)).alloc (.cells #[.bool g2, .slice p2 n2 c2, .slice q2 m2 d2] 27)).alloc (.cells #[.bool false, .slice none 0 0, .slice none 0 0] 27)) = w0 at *
  have hg := grown_drew w0 none
  replace hA := hA.keep hg; replace hE := hE.keep hg; replace hB := hB.keep hg; replace hF := hF.keep hg
  replace x0 := hg.cell x0 (by simp); replace x1 := hg.cell x1 (by simp); replace x2 := hg.cell x2 (by simp); replace y0 := hg.cell y0 (by simp)
  replace y1 := hg.cell y1 (by simp); replace y2 := hg.cell y2 (by simp); replace bx2 := (hg.block _ (lt_of_block bx2) (by simp)).trans bx2; replace hW := grown_trans hW hg
  clear hg
  go_region_held3 (fun w' => w'.cell? ⟨w.heap.size, 0, none⟩ = some (.bool g1) ∧ w'.cell? ⟨w.heap.size, 1, none⟩ = some (.slice p1 n1 c1) ∧ w'.cell? ⟨w.heap.size, 2, none⟩ = some (.slice q1 m1 d1) ∧ w'.cell? ⟨w.heap.size + 1, 0, none⟩ = some (.bool g2) ∧ w'.cell? ⟨w.heap.size + 1, 1, none⟩ = some (.slice p2 n2 c2) ∧ w'.cell? ⟨w.heap.size + 1, 2, none⟩ = some (.slice q2 m2 d2)) ((try go_split_ands) <;> (repeat' apply And.intro) <;> (repeat (first | (with_reducible assumption) | (with_reducible refine (grown_setCell _ _ _).cell ?_ (by first | (simp; omega) | simp)) | (with_reducible refine (World.grownBy_alloc _ _ none).cell ?_ (by simp)) | (with_reducible refine (grown_drew _ none).cell ?_ (by simp)))))
    (first
      | (go_at_call 121; (with_reducible refine (rMul_any hA hB (by omega) (by omega)).mono ?_); rintro ee v1 ⟨g5, p5, n5, c5, rfl, hX, hn5, hg⟩; replace hA := hA.keep hg; replace hE := hE.keep hg; replace hB := hB.keep hg; replace hF := hF.keep hg; replace x0 := hg.cell x0 (by simp); replace x1 := hg.cell x1 (by simp); replace x2 := hg.cell x2 (by simp); replace y0 := hg.cell y0 (by simp); replace y1 := hg.cell y1 (by simp); replace y2 := hg.cell y2 (by simp); replace bx2 := (hg.block _ (lt_of_block bx2) (by simp)).trans bx2; replace hW := grown_trans hW hg; clear hg)
      | (go_at_call 129; (with_reducible refine (refMul_n hE hF (by omega) (by omega)).mono ?_); rintro ee v2 ⟨q7, m7, d7, rfl, hY, hm7, hg⟩; replace hA := hA.keep hg; replace hE := hE.keep hg; replace hB := hB.keep hg; replace hF := hF.keep hg; replace hX := hX.keep hg; replace x0 := hg.cell x0 (by simp); replace x1 := hg.cell x1 (by simp); replace x2 := hg.cell x2 (by simp); replace y0 := hg.cell y0 (by simp); replace y1 := hg.cell y1 (by simp); replace y2 := hg.cell y2 (by simp); replace bx2 := (hg.block _ (lt_of_block bx2) (by simp)).trans bx2; replace hW := grown_trans hW hg; clear hg)
      | (go_at_call 123; (with_reducible refine (over_v (4 * S + 20) hX.z hY.isN HV.out (by omega) (by omega) (by omega)).mono ?_); rintro ee v3 ⟨g6, p6, n6, c6, q6, m6, d6, rfl, hZ, hn6, hm6, hg⟩; replace hA := hA.keep hg; replace hE := hE.keep hg; replace hB := hB.keep hg; replace hF := hF.keep hg; replace hX := hX.keep hg; replace hY := hY.keep hg; replace x0 := hg.cell x0 (by simp); replace x1 := hg.cell x1 (by simp); replace x2 := hg.cell x2 (by simp); replace y0 := hg.cell y0 (by simp); replace y1 := hg.cell y1 (by simp); replace y2 := hg.cell y2 (by simp); replace bx2 := (hg.block _ (lt_of_block bx2) (by simp)).trans bx2; replace hW := grown_trans hW hg; clear hg; have ff := ratbox_facts bx2; obtain ⟨l0, l1, l2, f0, f1, f2⟩ := ff))
  go_wp2_with fail
  exact bodyPost_ret (v := .agg #[.bool g6, .slice p6 n6 c6, .slice q6 m6 d6]) (by simp [results, Tryz.results92, go_sem, l0, l1, l2, f0, f1, f2]) rfl
    (VPost.close bx2 (by omega) hW hZ hn6 hm6)

set_option maxRecDepth 20000 in
set_option maxHeartbeats 4000000 in
theorem rMake_e (S : Nat) {w : World} {g1 g2 : Bool} {p1 p2 : Option Addr} {n1 c1 n2 c2 : Nat} {N M : Int} (hA : IsZ w g1 p1 n1 c1 N) (hB : IsZ w g2 p2 n2 c2 M) (h0 : M = 0) (hn1 : n1 ≤ S) (hn2 : n2 ≤ S) (hS : S ≤ 60000) :
    Calls Tryz.prog 105 #[.agg #[.bool g1, .slice p1 n1 c1], .agg #[.bool g2, .slice p2 n2 c2]] w (EPost w 3) := by
  have HS := hid (show cmpI M 0 = 0 by rw [h0]; decide)
  clear h0
  have hW := (grown_trans (grown_trans (World.grownBy_alloc w (.cells #[.bool g1, .slice p1 n1 c1] 25) none) (World.grownBy_alloc _ (.cells #[.bool g2, .slice p2 n2 c2] 25) none)) (World.grownBy_alloc _ (.cells #[.bool false, .slice none 0 0, .slice none 0 0] 27) none))
  have bx0 : (((w.alloc (.cells #[.bool g1, .slice p1 n1 c1] 25)).alloc (.cells #[.bool g2, .slice p2 n2 c2] 25)).alloc (.cells #[.bool false, .slice none 0 0, .slice none 0 0] 27)).heap[w.heap.size]? = some (.cells #[.bool g1, .slice p1 n1 c1] 25 (0, 0)) := by
    have h0 := heap_alloc_new w (.cells #[.bool g1, .slice p1 n1 c1] 25)
    have h1 := (grown_trans (World.grownBy_alloc (w.alloc (.cells #[.bool g1, .slice p1 n1 c1] 25)) (.cells #[.bool g2, .slice p2 n2 c2] 25) none) (World.grownBy_alloc _ (.cells #[.bool false, .slice none 0 0, .slice none 0 0] 27) none)).block _ (lt_of_block h0) (by simp)
    have h2 := h1.trans h0
    simpa using h2
  have bx1 : (((w.alloc (.cells #[.bool g1, .slice p1 n1 c1] 25)).alloc (.cells #[.bool g2, .slice p2 n2 c2] 25)).alloc (.cells #[.bool false, .slice none 0 0, .slice none 0 0] 27)).heap[w.heap.size + 1]? = some (.cells #[.bool g2, .slice p2 n2 c2] 25 (0, 0)) := by
    have h0 := heap_alloc_new (w.alloc (.cells #[.bool g1, .slice p1 n1 c1] 25)) (.cells #[.bool g2, .slice p2 n2 c2] 25)
    have h1 := (World.grownBy_alloc ((w.alloc (.cells #[.bool g1, .slice p1 n1 c1] 25)).alloc (.cells #[.bool g2, .slice p2 n2 c2] 25)) (.cells #[.bool false, .slice none 0 0, .slice none 0 0] 27) none).block _ (lt_of_block h0) (by simp)
    have h2 := h1.trans h0
    simpa using h2
  obtain ⟨y0, y1, _, _⟩ := intbox_facts bx1
  clear bx1
  have bx2 : (((w.alloc (.cells #[.bool g1, .slice p1 n1 c1] 25)).alloc (.cells #[.bool g2, .slice p2 n2 c2] 25)).alloc (.cells #[.bool false, .slice none 0 0, .slice none 0 0] 27)).heap[w.heap.size + 1 + 1]? = some (.cells #[.bool false, .slice none 0 0, .slice none 0 0] 27 (0, 0)) := by
    have := heap_alloc_new ((w.alloc (.cells #[.bool g1, .slice p1 n1 c1] 25)).alloc (.cells #[.bool g2, .slice p2 n2 c2] 25)) (.cells #[.bool false, .slice none 0 0, .slice none 0 0] 27)
    simpa using this
  replace hA := hA.keep hW; replace hB := hB.keep hW
  go_enter Tryz.func105, Tryz.ntmps105
  go_wp2_with fail
  generalize (((w.alloc (.cells #[.bool g1, .slice p1 n1 c1] 25)).alloc (.cells #[.bool g2, .slice p2 n2 c2] 25)).alloc (.cells #[.bool false, .slice none 0 0, .slice none 0 0] 27)) = w0 at *
  refine (rSign_any hB (by omega)).mono ?_
  rintro ee v1 ⟨rfl, hg⟩
  rw [HS.out]
  replace hA := hA.keep hg; replace hB := hB.keep hg; replace y0 := hg.cell y0 (by simp); replace y1 := hg.cell y1 (by simp)
  replace bx0 := (hg.block _ (lt_of_block bx0) (by simp)).trans bx0; replace bx2 := (hg.block _ (lt_of_block bx2) (by simp)).trans bx2; replace hW := grown_trans hW hg
  clear hg
  obtain ⟨l0, l1, l2, f0, f1, f2⟩ := ratbox_facts bx2
  go_wp2_with fail
  exact bodyPost_ret (v := .tuple #[.agg #[.bool false, .slice none 0 0, .slice none 0 0], .int .i64 3]) (by simp [results, Tryz.results105, go_sem, l0, l1, l2, f0, f1, f2]) rfl
    (EPost.close (by omega) hW _ _ _ _)

set_option maxRecDepth 20000 in
set_option maxHeartbeats 4000000 in
theorem rMake_v (S : Nat) {w : World} {g1 g2 : Bool} {p1 p2 : Option Addr} {n1 c1 n2 c2 : Nat} {N M : Int} (hA : IsZ w g1 p1 n1 c1 N) (hB : IsZ w g2 p2 n2 c2 M) {v : Rat} (h0 : M ≠ 0) (hv : (N : Rat) / (M : Rat) = v) (hn1 : n1 ≤ S) (hn2 : n2 ≤ S) (hS : S ≤ 60000) :
    Calls Tryz.prog 105 #[.agg #[.bool g1, .slice p1 n1 c1], .agg #[.bool g2, .slice p2 n2 c2]] w (MPost w v (4 * S + 20)) := by
  have HV := qn_q (N := N) h0
  rw [hv] at HV
  unfold qn at HV
  have t0 : ((cmpI M 0 == 0) = false) := beq_eq_false_iff_ne.2 (by rw [Ne, cmpI_zero_iff]; exact h0)
  have hs := hB.2
  clear hv
  cases g2
  · rw [sg_false] at hs
    rw [if_neg (by omega)] at HV
    replace HV := hid HV
    clear hs h0
    have hW := (grown_trans (grown_trans (World.grownBy_alloc w (.cells #[.bool g1, .slice p1 n1 c1] 25) none) (World.grownBy_alloc _ (.cells #[.bool false, .slice p2 n2 c2] 25) none)) (World.grownBy_alloc _ (.cells #[.bool false, .slice none 0 0, .slice none 0 0] 27) none))
    have bx0 : (((w.alloc (.cells #[.bool g1, .slice p1 n1 c1] 25)).alloc (.cells #[.bool false, .slice p2 n2 c2] 25)).alloc (.cells #[.bool false, .slice none 0 0, .slice none 0 0] 27)).heap[w.heap.size]? = some (.cells #[.bool g1, .slice p1 n1 c1] 25 (0, 0)) := by
      have h0 := heap_alloc_new w (.cells #[.bool g1, .slice p1 n1 c1] 25)
      have h1 := (grown_trans (World.grownBy_alloc (w.alloc (.cells #[.bool g1, .slice p1 n1 c1] 25)) (.cells #[.bool false, .slice p2 n2 c2] 25) none) (World.grownBy_alloc _ (.cells #[.bool false, .slice none 0 0, .slice none 0 0] 27) none)).block _ (lt_of_block h0) (by simp)
      have h2 := h1.trans h0
      simpa using h2
    have bx1 : (((w.alloc (.cells #[.bool g1, .slice p1 n1 c1] 25)).alloc (.cells #[.bool false, .slice p2 n2 c2] 25)).alloc (.cells #[.bool false, .slice none 0 0, .slice none 0 0] 27)).heap[w.heap.size + 1]? = some (.cells #[.bool false, .slice p2 n2 c2] 25 (0, 0)) := by
      have h0 := heap_alloc_new (w.alloc (.cells #[.bool g1, .slice p1 n1 c1] 25)) (.cells #[.bool false, .slice p2 n2 c2] 25)
      have h1 := (World.grownBy_alloc ((w.alloc (.cells #[.bool g1, .slice p1 n1 c1] 25)).alloc (.cells #[.bool false, .slice p2 n2 c2] 25)) (.cells #[.bool false, .slice none 0 0, .slice none 0 0] 27) none).block _ (lt_of_block h0) (by simp)
      have h2 := h1.trans h0
      simpa using h2
    obtain ⟨y0, y1, _, _⟩ := intbox_facts bx1
    clear bx1
    have bx2 : (((w.alloc (.cells #[.bool g1, .slice p1 n1 c1] 25)).alloc (.cells #[.bool false, .slice p2 n2 c2] 25)).alloc (.cells #[.bool false, .slice none 0 0, .slice none 0 0] 27)).heap[w.heap.size + 1 + 1]? = some (.cells #[.bool false, .slice none 0 0, .slice none 0 0] 27 (0, 0)) := by
      have := heap_alloc_new ((w.alloc (.cells #[.bool g1, .slice p1 n1 c1] 25)).alloc (.cells #[.bool false, .slice p2 n2 c2] 25)) (.cells #[.bool false, .slice none 0 0, .slice none 0 0] 27)
      simpa using this
    replace hA := hA.keep hW; replace hB := hB.keep hW
    go_enter Tryz.func105, Tryz.ntmps105
    go_wp2_with fail
    generalize (((w.alloc (.cells #[.bool g1, .slice p1 n1 c1] 25)).alloc (.cells #[.bool false, .slice p2 n2 c2] 25)).alloc (.cells #[.bool false, .slice none 0 0, .slice none 0 0] 27)) = w0 at *
    refine (rSign_any hB (by omega)).mono ?_
    rintro ee v1 ⟨rfl, hg⟩
    replace hA := hA.keep hg; replace hB := hB.keep hg; replace y0 := hg.cell y0 (by simp); replace y1 := hg.cell y1 (by simp)
    replace bx0 := (hg.block _ (lt_of_block bx0) (by simp)).trans bx0; replace bx2 := (hg.block _ (lt_of_block bx2) (by simp)).trans bx2; replace hW := grown_trans hW hg
    clear hg
    obtain ⟨x0, x1, fx0, fx1⟩ := intbox_facts bx0
    go_wp2_with fail
    refine (over_v (4 * S + 20) hA hB.1 HV.out (by omega) (by omega) (by omega)).mono ?_
    rintro ee v2 ⟨g6, p6, n6, c6, q6, m6, d6, rfl, hZ, hn6, hm6, hg⟩
    replace hA := hA.keep hg; replace hB := hB.keep hg; replace y0 := hg.cell y0 (by simp); replace y1 := hg.cell y1 (by simp)
    replace x0 := hg.cell x0 (by simp); replace x1 := hg.cell x1 (by simp); replace bx0 := (hg.block _ (lt_of_block bx0) (by simp)).trans bx0; replace bx2 := (hg.block _ (lt_of_block bx2) (by simp)).trans bx2
    replace hW := grown_trans hW hg
    clear hg
    obtain ⟨l0, l1, l2, f0, f1, f2⟩ := ratbox_facts bx2
    go_wp2_with fail
    exact bodyPost_ret (v := .tuple #[.agg #[.bool g6, .slice p6 n6 c6, .slice q6 m6 d6], .int .i64 0]) (by simp [results, Tryz.results105, go_sem, l0, l1, l2, f0, f1, f2]) rfl
      (MPost.close bx2 (by omega) hW hZ hn6 hm6)
  · rw [sg_true] at hs
    rw [if_pos (by omega)] at HV
    replace HV := hid HV
    clear hs h0
    have hW := (grown_trans (grown_trans (World.grownBy_alloc w (.cells #[.bool g1, .slice p1 n1 c1] 25) none) (World.grownBy_alloc _ (.cells #[.bool true, .slice p2 n2 c2] 25) none)) (World.grownBy_alloc _ (.cells #[.bool false, .slice none 0 0, .slice none 0 0] 27) none))
    have bx0 : (((w.alloc (.cells #[.bool g1, .slice p1 n1 c1] 25)).alloc (.cells #[.bool true, .slice p2 n2 c2] 25)).alloc (.cells #[.bool false, .slice none 0 0, .slice none 0 0] 27)).heap[w.heap.size]? = some (.cells #[.bool g1, .slice p1 n1 c1] 25 (0, 0)) := by
      have h0 := heap_alloc_new w (.cells #[.bool g1, .slice p1 n1 c1] 25)
      have h1 := (grown_trans (World.grownBy_alloc (w.alloc (.cells #[.bool g1, .slice p1 n1 c1] 25)) (.cells #[.bool true, .slice p2 n2 c2] 25) none) (World.grownBy_alloc _ (.cells #[.bool false, .slice none 0 0, .slice none 0 0] 27) none)).block _ (lt_of_block h0) (by simp)
      have h2 := h1.trans h0
      simpa using h2
    have bx1 : (((w.alloc (.cells #[.bool g1, .slice p1 n1 c1] 25)).alloc (.cells #[.bool true, .slice p2 n2 c2] 25)).alloc (.cells #[.bool false, .slice none 0 0, .slice none 0 0] 27)).heap[w.heap.size + 1]? = some (.cells #[.bool true, .slice p2 n2 c2] 25 (0, 0)) := by
      have h0 := heap_alloc_new (w.alloc (.cells #[.bool g1, .slice p1 n1 c1] 25)) (.cells #[.bool true, .slice p2 n2 c2] 25)
      have h1 := (World.grownBy_alloc ((w.alloc (.cells #[.bool g1, .slice p1 n1 c1] 25)).alloc (.cells #[.bool true, .slice p2 n2 c2] 25)) (.cells #[.bool false, .slice none 0 0, .slice none 0 0] 27) none).block _ (lt_of_block h0) (by simp)
      have h2 := h1.trans h0
      simpa using h2
    obtain ⟨y0, y1, _, _⟩ := intbox_facts bx1
    clear bx1
    have bx2 : (((w.alloc (.cells #[.bool g1, .slice p1 n1 c1] 25)).alloc (.cells #[.bool true, .slice p2 n2 c2] 25)).alloc (.cells #[.bool false, .slice none 0 0, .slice none 0 0] 27)).heap[w.heap.size + 1 + 1]? = some (.cells #[.bool false, .slice none 0 0, .slice none 0 0] 27 (0, 0)) := by
      have := heap_alloc_new ((w.alloc (.cells #[.bool g1, .slice p1 n1 c1] 25)).alloc (.cells #[.bool true, .slice p2 n2 c2] 25)) (.cells #[.bool false, .slice none 0 0, .slice none 0 0] 27)
      simpa using this
    replace hA := hA.keep hW; replace hB := hB.keep hW
    go_enter Tryz.func105, Tryz.ntmps105
    go_wp2_with fail
    generalize (((w.alloc (.cells #[.bool g1, .slice p1 n1 c1] 25)).alloc (.cells #[.bool true, .slice p2 n2 c2] 25)).alloc (.cells #[.bool false, .slice none 0 0, .slice none 0 0] 27)) = w0 at *
    refine (rSign_any hB (by omega)).mono ?_
    rintro ee v1 ⟨rfl, hg⟩
    replace hA := hA.keep hg; replace hB := hB.keep hg; replace y0 := hg.cell y0 (by simp); replace y1 := hg.cell y1 (by simp)
    replace bx0 := (hg.block _ (lt_of_block bx0) (by simp)).trans bx0; replace bx2 := (hg.block _ (lt_of_block bx2) (by simp)).trans bx2; replace hW := grown_trans hW hg
    clear hg
    obtain ⟨x0, x1, fx0, fx1⟩ := intbox_facts bx0
    go_wp2_with fail
    refine (rNeg_any hA (by omega)).mono ?_
    rintro ee v2 ⟨g5, p5, n5, c5, rfl, hX, hn5, hg⟩
    replace hA := hA.keep hg; replace hB := hB.keep hg; replace y0 := hg.cell y0 (by simp); replace y1 := hg.cell y1 (by simp)
    replace x0 := hg.cell x0 (by simp); replace x1 := hg.cell x1 (by simp); replace bx0 := (hg.block _ (lt_of_block bx0) (by simp)).trans bx0; replace bx2 := (hg.block _ (lt_of_block bx2) (by simp)).trans bx2
    replace hW := grown_trans hW hg
    clear hg
    obtain ⟨_, _, fx0, fx1⟩ := intbox_facts bx0
    have hs := set2_grown v2 w.heap.size (.bool g5) (.slice p5 n5 c5)
    have hX2 := hX.z.other2 bx0 hs
    have hB2 := hB.other2 bx0 hs
    have y02 := hs.cell y0 (by simp)
    have y12 := hs.cell y1 (by simp)
    have bx22 := (hs.block _ (lt_of_block bx2) (by simp; omega)).trans bx2
    have hW2 := grown_new hW hs (fun g e => by cases e; omega)
    have bx02 := set2_block bx0 g5 p5 n5 c5
    obtain ⟨x02, x12, _, _⟩ := intbox_facts bx02
    clear bx02
    go_wp2_with fail
    generalize (v2.setCell ⟨w.heap.size, 0, none⟩ (.bool g5)).setCell ⟨w.heap.size, 1, none⟩ (.slice p5 n5 c5) = v3 at *
    refine (over_v (4 * S + 20) hX2 hB2.1 HV.out (by omega) (by omega) (by omega)).mono ?_
    rintro ee v4 ⟨g6, p6, n6, c6, q6, m6, d6, rfl, hZ, hn6, hm6, hg⟩
    replace bx22 := (hg.block _ (lt_of_block bx22) (by simp)).trans bx22
    replace hW2 := grown_trans hW2 hg
    obtain ⟨l0, l1, l2, f0, f1, f2⟩ := ratbox_facts bx22
    go_wp2_with fail
    exact bodyPost_ret (v := .tuple #[.agg #[.bool g6, .slice p6 n6 c6, .slice q6 m6 d6], .int .i64 0]) (by simp [results, Tryz.results105, go_sem, l0, l1, l2, f0, f1, f2]) rfl
      (MPost.close bx22 (by omega) hW2 hZ hn6 hm6)
end Go.Proofs.YtgbfjneoieadmaaGreatDoor
