/-
  RatR RatU RatS RatT ShL RootA Root Box4 RvA RvB RatY, in one text.
-/
import Derived.Test.YthkgldpcgmnaiaaDoorMrR
import Derived.Lib.SmallJoins
import Derived.Deep.DeepCutAuto
import Derived.Test.YthkgldpcgmnaiaaDoorVal
import Derived.Test.YthkgldpcgmnaiaaDoorMrQ
import Derived.Laws.BitsAllLaws
import Derived.Test.YthkgldpcgmnaiaaDoorMem
import Derived.Laws.Bits128

set_option linter.unusedVariables false
set_option linter.unusedSimpArgs false
namespace Go.Proofs.YthkgldpcgmnaiaaDoor
open Go.RowKit Nm

theorem over_v (B : Nat) {w : World} {g : Bool} {p q : Option Addr} {n c m d D : Nat} {N : Int} {v : Rat} (hA : IsZ w g p n c N) (hB : IsN w q m d D) (hv : mkRat N D = v) (hn : n ≤ B) (hm : m + 4 ≤ B) (hx : B ≤ 300000) :
    Calls Tryd.prog 33 #[.agg #[.bool g, .slice p n c], .slice q m d] w (VPost w v B) :=
  (over_any hA hB (by omega) (by omega)).mono fun _ _ h => h.v (by rw [rn_q (pd_pos D), pq, hv]) (by rw [rd_q (pd_pos D), pq, hv]) hn hm
theorem norm_v (S : Nat) {w : World} {g1 : Bool} {p1 q1 : Option Addr} {n1 c1 m1 d1 : Nat} {v : Rat} (hA : IsQ w g1 p1 n1 c1 q1 m1 d1 v) (hn1 : n1 ≤ S) (hm1 : m1 ≤ S) (hS : S ≤ 40000) :
    Calls Tryd.prog 29 #[.agg #[.bool g1, .slice p1 n1 c1, .slice q1 m1 d1]] w (VPost w v (S + 4)) := by
  obtain ⟨N, D, h1, h2, rfl⟩ := hA
  exact (norm3_any h1 h2 (by omega) (by omega)).mono fun _ _ h => h.v (by rw [rn_q (pd_pos D), pq]) (by rw [rd_q (pd_pos D), pq]) (by omega) (by omega)
theorem wholeT_any {w : World} (p : Option Addr) (n c : Nat) :
    Calls Tryd.prog 32 #[.slice p n c] w fun e w' => e = .returned (.agg #[.bool false, .slice p n c]) ∧ w.grownBy w' none := by
  go_enter Tryd.func32, Tryd.ntmps32
  go_wp2
  exact bodyPost_ret (v := .agg #[.bool false, .slice p n c]) (by simp [results, Tryd.results32, go_sem]) rfl ⟨rfl, World.grownBy_alloc w _ none⟩

set_option maxRecDepth 20000 in
set_option maxHeartbeats 4000000 in
theorem rNeg3_v (S : Nat) {w : World} {g1 : Bool} {p1 q1 : Option Addr} {n1 c1 m1 d1 : Nat} {v : Rat} (hA : IsQ w g1 p1 n1 c1 q1 m1 d1 v) (hn1 : n1 ≤ S) (hm1 : m1 ≤ S) (hS : S ≤ 40000) :
    Calls Tryd.prog 19 #[.agg #[.bool g1, .slice p1 n1 c1, .slice q1 m1 d1]] w (VPost w (-v) (S + 4)) := by
  obtain ⟨N, D, hA, hE, rfl⟩ := hA
  have HV := hid (show mkRat (-N) D = -mkRat N D from (Rat.neg_mkRat N D).symm)
  have hW := (grown_trans (World.grownBy_alloc w (.cells #[.bool g1, .slice p1 n1 c1, .slice q1 m1 d1] 27) none) (World.grownBy_alloc _ (.cells #[.bool false, .slice none 0 0, .slice none 0 0] 27) none))
  have bx0 : ((w.alloc (.cells #[.bool g1, .slice p1 n1 c1, .slice q1 m1 d1] 27)).alloc (.cells #[.bool false, .slice none 0 0, .slice none 0 0] 27)).heap[w.heap.size]? = some (.cells #[.bool g1, .slice p1 n1 c1, .slice q1 m1 d1] 27 (0, 0)) := by
    have h0 := heap_alloc_new w (.cells #[.bool g1, .slice p1 n1 c1, .slice q1 m1 d1] 27)
    have h1 := (World.grownBy_alloc (w.alloc (.cells #[.bool g1, .slice p1 n1 c1, .slice q1 m1 d1] 27)) (.cells #[.bool false, .slice none 0 0, .slice none 0 0] 27) none).block _ (lt_of_block h0) (by simp)
    have h2 := h1.trans h0
    simpa using h2
  obtain ⟨x0, x1, x2, _, _, _⟩ := ratbox_facts bx0
  clear bx0
  have bx1 : ((w.alloc (.cells #[.bool g1, .slice p1 n1 c1, .slice q1 m1 d1] 27)).alloc (.cells #[.bool false, .slice none 0 0, .slice none 0 0] 27)).heap[w.heap.size + 1]? = some (.cells #[.bool false, .slice none 0 0, .slice none 0 0] 27 (0, 0)) := by
    have := heap_alloc_new (w.alloc (.cells #[.bool g1, .slice p1 n1 c1, .slice q1 m1 d1] 27)) (.cells #[.bool false, .slice none 0 0, .slice none 0 0] 27)
    simpa using this
  replace hA := hA.keep hW; replace hE := hE.keep hW
  go_enter Tryd.func19, Tryd.ntmps19
  go_wp2_with fail
  generalize ((w.alloc (.cells #[.bool g1, .slice p1 n1 c1, .slice q1 m1 d1] 27)).alloc (.cells #[.bool false, .slice none 0 0, .slice none 0 0] 27)) = w0 at *
  have hg := grown_drew w0 none
  replace hA := hA.keep hg; replace hE := hE.keep hg; replace x0 := hg.cell x0 (by simp); replace x1 := hg.cell x1 (by simp)
  replace x2 := hg.cell x2 (by simp); replace bx1 := (hg.block _ (lt_of_block bx1) (by simp)).trans bx1; replace hW := grown_trans hW hg
  clear hg
  go_region_held3 (fun w' => w'.cell? ⟨w.heap.size, 0, none⟩ = some (.bool g1) ∧ w'.cell? ⟨w.heap.size, 1, none⟩ = some (.slice p1 n1 c1) ∧ w'.cell? ⟨w.heap.size, 2, none⟩ = some (.slice q1 m1 d1)) ((try go_split_ands) <;> (repeat' apply And.intro) <;> (repeat (first | (with_reducible assumption) | (with_reducible refine (grown_setCell _ _ _).cell ?_ (by first | (simp; omega) | simp)) | (with_reducible refine (World.grownBy_alloc _ _ none).cell ?_ (by simp)) | (with_reducible refine (grown_drew _ none).cell ?_ (by simp)))))
    (first
      | (go_at_call 37; (with_reducible refine (rNeg_any hA (by omega)).mono ?_); rintro ee v1 ⟨g5, p5, n5, c5, rfl, hX, hn5, hg⟩; replace hA := hA.keep hg; replace hE := hE.keep hg; replace x0 := hg.cell x0 (by simp); replace x1 := hg.cell x1 (by simp); replace x2 := hg.cell x2 (by simp); replace bx1 := (hg.block _ (lt_of_block bx1) (by simp)).trans bx1; replace hW := grown_trans hW hg; clear hg)
      | (go_at_call 33; (with_reducible refine (over_v (S + 4) hX.z hE HV.out (by omega) (by omega) (by omega)).mono ?_); rintro ee v2 ⟨g6, p6, n6, c6, q6, m6, d6, rfl, hZ, hn6, hm6, hg⟩; replace hA := hA.keep hg; replace hE := hE.keep hg; replace hX := hX.keep hg; replace x0 := hg.cell x0 (by simp); replace x1 := hg.cell x1 (by simp); replace x2 := hg.cell x2 (by simp); replace bx1 := (hg.block _ (lt_of_block bx1) (by simp)).trans bx1; replace hW := grown_trans hW hg; clear hg; have ff := ratbox_facts bx1; obtain ⟨l0, l1, l2, f0, f1, f2⟩ := ff))
  go_wp2_with fail
  exact bodyPost_ret (v := .agg #[.bool g6, .slice p6 n6 c6, .slice q6 m6 d6]) (by simp [results, Tryd.results19, go_sem, l0, l1, l2, f0, f1, f2]) rfl
    (VPost.close bx1 (by omega) hW hZ hn6 hm6)


set_option maxRecDepth 20000 in
set_option maxHeartbeats 4000000 in
theorem rMake_e (S : Nat) {w : World} {g1 g2 : Bool} {p1 p2 : Option Addr} {n1 c1 n2 c2 : Nat} {N M : Int} (hA : IsZ w g1 p1 n1 c1 N) (hB : IsZ w g2 p2 n2 c2 M) (h0 : M = 0) (hn1 : n1 ≤ S) (hn2 : n2 ≤ S) (hS : S ≤ 60000) :
    Calls Tryd.prog 57 #[.agg #[.bool g1, .slice p1 n1 c1], .agg #[.bool g2, .slice p2 n2 c2]] w (EPost w 3) := by
  have HS := hid (show cmpI M 0 = 0 by rw [h0]; decide)
  clear h0
  have hW := (grown_trans (grown_trans (World.grownBy_alloc w (.cells #[.bool g1, .slice p1 n1 c1] 25) none) (World.grownBy_alloc _ (.cells #[.bool g2, .slice p2 n2 c2] 25) none)) (World.grownBy_alloc _ (.cells #[.bool false, .slice none 0 0, .slice none 0 0] 27) none))
  have bx0 : (((w.alloc (.cells #[.bool g1, .slice p1 n1 c1] 25)).alloc (.cells #[.bool g2, .slice p2 n2 c2] 25)).alloc (.cells #[.bool false, .slice none 0 0, .slice none 0 0] 27)).heap[w.heap.size]? = some (.cells #[.bool g1, .slice p1 n1 c1] 25 (0, 0)) := by
    have h0 := heap_alloc_new w (.cells #[.bool g1, .slice p1 n1 c1] 25)
    have h1 := (grown_trans (World.grownBy_alloc (w.alloc (.cells #[.bool g1, .slice p1 n1 c1] 25)) (.cells #[.bool g2, .slice p2 n2 c2] 25) none) (World.grownBy_alloc _ (.cells #[.bool false, .slice none 0 0, .slice none 0 0] 27) none)).block _ (lt_of_block h0) (by simp)
    have h2 := h1.trans h0
    simpa using h2
  have bx1 : (((w.alloc (.cells #[.bool g1, .slice p1 n1 c1] 25)).alloc (.cells #[.bool g2, .slice p2 n2 c2] 25)).alloc (.cells #[.bool false, .slice none 0 0, .slice none 0 0] 27)).heap[w.heap.size + 1]? = some (.cells #[.bool g2, .slice p2 n2 c2] 25 (0, 0)) := by
    have h0 := heap_alloc_new (w.alloc (.cells #[.bool g1, .slice p1 n1 c1] 25)) (.cells #[.bool g2, .slice p2 n2 c2] 25)
    have h1 := (World.grownBy_alloc ((w.alloc (.cells #[.bool g1, .slice p1 n1 c1] 25)).alloc (.cells #[.bool g2, .slice p2 n2 c2] 25)) (.cells #[.bool false, .slice none 0 0, .slice none 0 0] 27) none).block _ (lt_of_block h0) (by simp)
    have h2 := h1.trans h0
    simpa using h2
  obtain ⟨y0, y1, _, _⟩ := intbox_facts bx1
  clear bx1
  have bx2 : (((w.alloc (.cells #[.bool g1, .slice p1 n1 c1] 25)).alloc (.cells #[.bool g2, .slice p2 n2 c2] 25)).alloc (.cells #[.bool false, .slice none 0 0, .slice none 0 0] 27)).heap[w.heap.size + 1 + 1]? = some (.cells #[.bool false, .slice none 0 0, .slice none 0 0] 27 (0, 0)) := by
    have := heap_alloc_new ((w.alloc (.cells #[.bool g1, .slice p1 n1 c1] 25)).alloc (.cells #[.bool g2, .slice p2 n2 c2] 25)) (.cells #[.bool false, .slice none 0 0, .slice none 0 0] 27)
    simpa using this
  replace hA := hA.keep hW; replace hB := hB.keep hW
  go_enter Tryd.func57, Tryd.ntmps57
  go_wp2_with fail
  generalize (((w.alloc (.cells #[.bool g1, .slice p1 n1 c1] 25)).alloc (.cells #[.bool g2, .slice p2 n2 c2] 25)).alloc (.cells #[.bool false, .slice none 0 0, .slice none 0 0] 27)) = w0 at *
  refine (rSign_any hB (by omega)).mono ?_
  rintro ee v1 ⟨rfl, hg⟩
  rw [HS.out]
  replace hA := hA.keep hg; replace hB := hB.keep hg; replace y0 := hg.cell y0 (by simp); replace y1 := hg.cell y1 (by simp)
  replace bx0 := (hg.block _ (lt_of_block bx0) (by simp)).trans bx0; replace bx2 := (hg.block _ (lt_of_block bx2) (by simp)).trans bx2; replace hW := grown_trans hW hg
  clear hg
  obtain ⟨l0, l1, l2, f0, f1, f2⟩ := ratbox_facts bx2
  go_wp2_with fail
  exact bodyPost_ret (v := .tuple #[.agg #[.bool false, .slice none 0 0, .slice none 0 0], .int .i64 3]) (by simp [results, Tryd.results57, go_sem, l0, l1, l2, f0, f1, f2]) rfl
    (EPost.close (by omega) hW _ _ _ _)

set_option maxRecDepth 20000 in
set_option maxHeartbeats 4000000 in
theorem rMake_v (S : Nat) {w : World} {g1 g2 : Bool} {p1 p2 : Option Addr} {n1 c1 n2 c2 : Nat} {N M : Int} (hA : IsZ w g1 p1 n1 c1 N) (hB : IsZ w g2 p2 n2 c2 M) {v : Rat} (h0 : M ≠ 0) (hv : (N : Rat) / (M : Rat) = v) (hn1 : n1 ≤ S) (hn2 : n2 ≤ S) (hS : S ≤ 60000) :
    Calls Tryd.prog 57 #[.agg #[.bool g1, .slice p1 n1 c1], .agg #[.bool g2, .slice p2 n2 c2]] w (MPost w v (4 * S + 20)) := by
  have HV := qn_q (N := N) h0
  rw [hv] at HV
  unfold qn at HV
  have t0 : ((cmpI M 0 == 0) = false) := beq_eq_false_iff_ne.2 (by rw [Ne, cmpI_zero_iff]; exact h0)
  have hs := hB.2
  clear hv
  cases g2
  · rw [sg_false] at hs
    rw [if_neg (by omega)] at HV
    replace HV := hid HV
    clear hs h0
    have hW := (grown_trans (grown_trans (World.grownBy_alloc w (.cells #[.bool g1, .slice p1 n1 c1] 25) none) (World.grownBy_alloc _ (.cells #[.bool false, .slice p2 n2 c2] 25) none)) (World.grownBy_alloc _ (.cells #[.bool false, .slice none 0 0, .slice none 0 0] 27) none))
    have bx0 : (((w.alloc (.cells #[.bool g1, .slice p1 n1 c1] 25)).alloc (.cells #[.bool false, .slice p2 n2 c2] 25)).alloc (.cells #[.bool false, .slice none 0 0, .slice none 0 0] 27)).heap[w.heap.size]? = some (.cells #[.bool g1, .slice p1 n1 c1] 25 (0, 0)) := by
      have h0 := heap_alloc_new w (.cells #[.bool g1, .slice p1 n1 c1] 25)
      have h1 := (grown_trans (World.grownBy_alloc (w.alloc (.cells #[.bool g1, .slice p1 n1 c1] 25)) (.cells #[.bool false, .slice p2 n2 c2] 25) none) (World.grownBy_alloc _ (.cells #[.bool false, .slice none 0 0, .slice none 0 0] 27) none)).block _ (lt_of_block h0) (by simp)
      have h2 := h1.trans h0
      simpa using h2
    have bx1 : (((w.alloc (.cells #[.bool g1, .slice p1 n1 c1] 25)).alloc (.cells #[.bool false, .slice p2 n2 c2] 25)).alloc (.cells #[.bool false, .slice none 0 0, .slice none 0 0] 27)).heap[w.heap.size + 1]? = some (.cells #[.bool false, .slice p2 n2 c2] 25 (0, 0)) := by
      have h0 := heap_alloc_new (w.alloc (.cells #[.bool g1, .slice p1 n1 c1] 25)) (.cells #[.bool false, .slice p2 n2 c2] 25)
      have h1 := (World.grownBy_alloc ((w.alloc (.cells #[.bool g1, .slice p1 n1 c1] 25)).alloc (.cells #[.bool false, .slice p2 n2 c2] 25)) (.cells #[.bool false, .slice none 0 0, .slice none 0 0] 27) none).block _ (lt_of_block h0) (by simp)
      have h2 := h1.trans h0
      simpa using h2
    obtain ⟨y0, y1, _, _⟩ := intbox_facts bx1
    clear bx1
    have bx2 : (((w.alloc (.cells #[.bool g1, .slice p1 n1 c1] 25)).alloc (.cells #[.bool false, .slice p2 n2 c2] 25)).alloc (.cells #[.bool false, .slice none 0 0, .slice none 0 0] 27)).heap[w.heap.size + 1 + 1]? = some (.cells #[.bool false, .slice none 0 0, .slice none 0 0] 27 (0, 0)) := by
      have := heap_alloc_new ((w.alloc (.cells #[.bool g1, .slice p1 n1 c1] 25)).alloc (.cells #[.bool false, .slice p2 n2 c2] 25)) (.cells #[.bool false, .slice none 0 0, .slice none 0 0] 27)
      simpa using this
    replace hA := hA.keep hW; replace hB := hB.keep hW
    go_enter Tryd.func57, Tryd.ntmps57
    go_wp2_with fail
    generalize (((w.alloc (.cells #[.bool g1, .slice p1 n1 c1] 25)).alloc (.cells #[.bool false, .slice p2 n2 c2] 25)).alloc (.cells #[.bool false, .slice none 0 0, .slice none 0 0] 27)) = w0 at *
    refine (rSign_any hB (by omega)).mono ?_
    rintro ee v1 ⟨rfl, hg⟩
    replace hA := hA.keep hg; replace hB := hB.keep hg; replace y0 := hg.cell y0 (by simp); replace y1 := hg.cell y1 (by simp)
    replace bx0 := (hg.block _ (lt_of_block bx0) (by simp)).trans bx0; replace bx2 := (hg.block _ (lt_of_block bx2) (by simp)).trans bx2; replace hW := grown_trans hW hg
    clear hg
    obtain ⟨x0, x1, fx0, fx1⟩ := intbox_facts bx0
    go_wp2_with fail
    refine (over_v (4 * S + 20) hA hB.1 HV.out (by omega) (by omega) (by omega)).mono ?_
    rintro ee v2 ⟨g6, p6, n6, c6, q6, m6, d6, rfl, hZ, hn6, hm6, hg⟩
    replace hA := hA.keep hg; replace hB := hB.keep hg; replace y0 := hg.cell y0 (by simp); replace y1 := hg.cell y1 (by simp)
    replace x0 := hg.cell x0 (by simp); replace x1 := hg.cell x1 (by simp); replace bx0 := (hg.block _ (lt_of_block bx0) (by simp)).trans bx0; replace bx2 := (hg.block _ (lt_of_block bx2) (by simp)).trans bx2
    replace hW := grown_trans hW hg
    clear hg
    obtain ⟨l0, l1, l2, f0, f1, f2⟩ := ratbox_facts bx2
    go_wp2_with fail
    exact bodyPost_ret (v := .tuple #[.agg #[.bool g6, .slice p6 n6 c6, .slice q6 m6 d6], .int .i64 0]) (by simp [results, Tryd.results57, go_sem, l0, l1, l2, f0, f1, f2]) rfl
      (MPost.close bx2 (by omega) hW hZ hn6 hm6)
  · rw [sg_true] at hs
    rw [if_pos (by omega)] at HV
    replace HV := hid HV
    clear hs h0
    have hW := (grown_trans (grown_trans (World.grownBy_alloc w (.cells #[.bool g1, .slice p1 n1 c1] 25) none) (World.grownBy_alloc _ (.cells #[.bool true, .slice p2 n2 c2] 25) none)) (World.grownBy_alloc _ (.cells #[.bool false, .slice none 0 0, .slice none 0 0] 27) none))
    have bx0 : (((w.alloc (.cells #[.bool g1, .slice p1 n1 c1] 25)).alloc (.cells #[.bool true, .slice p2 n2 c2] 25)).alloc (.cells #[.bool false, .slice none 0 0, .slice none 0 0] 27)).heap[w.heap.size]? = some (.cells #[.bool g1, .slice p1 n1 c1] 25 (0, 0)) := by
      have h0 := heap_alloc_new w (.cells #[.bool g1, .slice p1 n1 c1] 25)
      have h1 := (grown_trans (World.grownBy_alloc (w.alloc (.cells #[.bool g1, .slice p1 n1 c1] 25)) (.cells #[.bool true, .slice p2 n2 c2] 25) none) (World.grownBy_alloc _ (.cells #[.bool false, .slice none 0 0, .slice none 0 0] 27) none)).block _ (lt_of_block h0) (by simp)
      have h2 := h1.trans h0
      simpa using h2
    have bx1 : (((w.alloc (.cells #[.bool g1, .slice p1 n1 c1] 25)).alloc (.cells #[.bool true, .slice p2 n2 c2] 25)).alloc (.cells #[.bool false, .slice none 0 0, .slice none 0 0] 27)).heap[w.heap.size + 1]? = some (.cells #[.bool true, .slice p2 n2 c2] 25 (0, 0)) := by
      have h0 := heap_alloc_new (w.alloc (.cells #[.bool g1, .slice p1 n1 c1] 25)) (.cells #[.bool true, .slice p2 n2 c2] 25)
      have h1 := (World.grownBy_alloc ((w.alloc (.cells #[.bool g1, .slice p1 n1 c1] 25)).alloc (.cells #[.bool true, .slice p2 n2 c2] 25)) (.cells #[.bool false, .slice none 0 0, .slice none 0 0] 27) none).block _ (lt_of_block h0) (by simp)
      have h2 := h1.trans h0
      simpa using h2
    obtain ⟨y0, y1, _, _⟩ := intbox_facts bx1
    clear bx1
    have bx2 : (((w.alloc (.cells #[.bool g1, .slice p1 n1 c1] 25)).alloc (.cells #[.bool true, .slice p2 n2 c2] 25)).alloc (.cells #[.bool false, .slice none 0 0, .slice none 0 0] 27)).heap[w.heap.size + 1 + 1]? = some (.cells #[.bool false, .slice none 0 0, .slice none 0 0] 27 (0, 0)) := by
      have := heap_alloc_new ((w.alloc (.cells #[.bool g1, .slice p1 n1 c1] 25)).alloc (.cells #[.bool true, .slice p2 n2 c2] 25)) (.cells #[.bool false, .slice none 0 0, .slice none 0 0] 27)
      simpa using this
    replace hA := hA.keep hW; replace hB := hB.keep hW
    go_enter Tryd.func57, Tryd.ntmps57
    go_wp2_with fail
    generalize (((w.alloc (.cells #[.bool g1, .slice p1 n1 c1] 25)).alloc (.cells #[.bool true, .slice p2 n2 c2] 25)).alloc (.cells #[.bool false, .slice none 0 0, .slice none 0 0] 27)) = w0 at *
    refine (rSign_any hB (by omega)).mono ?_
    rintro ee v1 ⟨rfl, hg⟩
    replace hA := hA.keep hg; replace hB := hB.keep hg; replace y0 := hg.cell y0 (by simp); replace y1 := hg.cell y1 (by simp)
    replace bx0 := (hg.block _ (lt_of_block bx0) (by simp)).trans bx0; replace bx2 := (hg.block _ (lt_of_block bx2) (by simp)).trans bx2; replace hW := grown_trans hW hg
    clear hg
    obtain ⟨x0, x1, fx0, fx1⟩ := intbox_facts bx0
    go_wp2_with fail
    refine (rNeg_any hA (by omega)).mono ?_
    rintro ee v2 ⟨g5, p5, n5, c5, rfl, hX, hn5, hg⟩
    replace hA := hA.keep hg; replace hB := hB.keep hg; replace y0 := hg.cell y0 (by simp); replace y1 := hg.cell y1 (by simp)
    replace x0 := hg.cell x0 (by simp); replace x1 := hg.cell x1 (by simp); replace bx0 := (hg.block _ (lt_of_block bx0) (by simp)).trans bx0; replace bx2 := (hg.block _ (lt_of_block bx2) (by simp)).trans bx2
    replace hW := grown_trans hW hg
    clear hg
    obtain ⟨_, _, fx0, fx1⟩ := intbox_facts bx0
    have hs := set2_grown v2 w.heap.size (.bool g5) (.slice p5 n5 c5)
    have hX2 := hX.z.other2 bx0 hs
    have hB2 := hB.other2 bx0 hs
    have y02 := hs.cell y0 (by simp)
    have y12 := hs.cell y1 (by simp)
    have bx22 := (hs.block _ (lt_of_block bx2) (by simp; omega)).trans bx2
    have hW2 := grown_new hW hs (fun g e => by cases e; omega)
    have bx02 := set2_block bx0 g5 p5 n5 c5
    obtain ⟨x02, x12, _, _⟩ := intbox_facts bx02
    clear bx02
    go_wp2_with fail
    generalize (v2.setCell ⟨w.heap.size, 0, none⟩ (.bool g5)).setCell ⟨w.heap.size, 1, none⟩ (.slice p5 n5 c5) = v3 at *
    refine (over_v (4 * S + 20) hX2 hB2.1 HV.out (by omega) (by omega) (by omega)).mono ?_
    rintro ee v4 ⟨g6, p6, n6, c6, q6, m6, d6, rfl, hZ, hn6, hm6, hg⟩
    replace bx22 := (hg.block _ (lt_of_block bx22) (by simp)).trans bx22
    replace hW2 := grown_trans hW2 hg
    obtain ⟨l0, l1, l2, f0, f1, f2⟩ := ratbox_facts bx22
    go_wp2_with fail
    exact bodyPost_ret (v := .tuple #[.agg #[.bool g6, .slice p6 n6 c6, .slice q6 m6 d6], .int .i64 0]) (by simp [results, Tryd.results57, go_sem, l0, l1, l2, f0, f1, f2]) rfl
      (MPost.close bx22 (by omega) hW2 hZ hn6 hm6)
end Go.Proofs.YthkgldpcgmnaiaaDoor

set_option linter.unusedVariables false
set_option linter.unusedSimpArgs false
namespace Go.Proofs.YthkgldpcgmnaiaaDoor
open Go.ChangeShapes Go.WideShapes Go.ChangeAt Go.RowKit Nm
open Go

theorem two_facts {w : World} {G : Nat} {x y : Int} {T : TypeId} (hb : w.heap[G]? = some (.cells #[.int .i64 x, .int .i64 y] T (0, 0))) :
    w.cell? ⟨G, 0, none⟩ = some (.int .i64 x) ∧ w.cell? ⟨G, 1, none⟩ = some (.int .i64 y) := by
  have k0 := cell_of_row w G 0 _ _ _ hb
  have k1 := cell_of_row w G 1 _ _ _ hb
  simp at k0 k1
  exact ⟨k0, k1⟩

theorem ratFrac_n {w : World} (T : Tb w) (x y : Int) (h0 : y ≠ 0) (h1 : -9223372036854775808 ≤ x) (h2 : x ≤ 9223372036854775807) (h3 : -9223372036854775808 ≤ y) (h4 : y ≤ 9223372036854775807) :
    Calls Tryd.prog 23 #[.int .i64 x, .int .i64 y] w (VPost w ((x : Rat) / (y : Rat)) 60) :=
  (ratFrac_any T x y h0 h1 h2 h3 h4).mono fun _ _ h => h.v (by rw [rn_q (by omega), qn_q h0]) (by rw [rd_q (by omega), qn_q h0]) (by omega) (by omega)

set_option maxRecDepth 20000 in
set_option maxHeartbeats 4000000 in
theorem ratFrac_z {w : World} (x : Int) :
    Calls Tryd.prog 23 #[.int .i64 x, .int .i64 0] w (VPost w ((x : Rat) / ((0 : Int) : Rat)) 60) := by
  have HV := hid (show ((0 : Int) : Rat) = (x : Rat) / ((0 : Int) : Rat) by
    have : ((0 : Int) : Rat) = 0 := rfl
    rw [this]; grind)
  have hW := (World.grownBy_alloc w (.cells #[.bool false, .slice none 0 0, .slice none 0 0] 27) none)
  have bx0 : (w.alloc (.cells #[.bool false, .slice none 0 0, .slice none 0 0] 27)).heap[w.heap.size]? = some (.cells #[.bool false, .slice none 0 0, .slice none 0 0] 27 (0, 0)) := by
    have := heap_alloc_new w (.cells #[.bool false, .slice none 0 0, .slice none 0 0] 27)
    simpa using this
  skip
  go_enter Tryd.func23, Tryd.ntmps23
  go_wp2_with fail
  generalize (w.alloc (.cells #[.bool false, .slice none 0 0, .slice none 0 0] 27)) = w0 at *
  refine (ratOf_v 0 _ (by omega) (by omega)).mono ?_
  rintro ee v1 ⟨g6, p6, n6, c6, q6, m6, d6, rfl, hZ, hn6, hm6, hg⟩
  replace bx0 := (hg.block _ (lt_of_block bx0) (by simp)).trans bx0; replace hW := grown_trans hW hg
  clear hg
  obtain ⟨l0, l1, l2, f0, f1, f2⟩ := ratbox_facts bx0
  go_wp2_with fail
  exact bodyPost_ret (v := .agg #[.bool g6, .slice p6 n6 c6, .slice q6 m6 d6]) (by simp [results, Tryd.results23, go_sem, l0, l1, l2, f0, f1, f2]) rfl
    (VPost.close bx0 (by omega) hW (hZ.congr HV.out) (by omega) (by omega))

theorem ratFrac_v {w : World} (T : Tb w) (x y : Int) (h1 : -9223372036854775808 ≤ x) (h2 : x ≤ 9223372036854775807) (h3 : -9223372036854775808 ≤ y) (h4 : y ≤ 9223372036854775807) :
    Calls Tryd.prog 23 #[.int .i64 x, .int .i64 y] w (VPost w ((x : Rat) / (y : Rat)) 60) := by
  by_cases h0 : y = 0
  · subst h0; exact ratFrac_z x
  · exact ratFrac_n T x y h0 h1 h2 h3 h4

set_option maxRecDepth 20000 in
set_option maxHeartbeats 4000000 in
theorem rOf3_v {w : World} (x : Int) (h1 : -9223372036854775808 ≤ x) (h2 : x ≤ 9223372036854775807) :
    Calls Tryd.prog 17 #[.int .i64 x] w (VPost w (x : Rat) 20) := by
  have HV := hid (show mkRat x 1 = (x : Rat) by
    rw [Rat.mkRat_eq_div]
    have : ((1 : Nat) : Rat) = 1 := rfl
    rw [this]; grind)
  have hW := (World.grownBy_alloc w (.cells #[.bool false, .slice none 0 0, .slice none 0 0] 27) none)
  have bx0 : (w.alloc (.cells #[.bool false, .slice none 0 0, .slice none 0 0] 27)).heap[w.heap.size]? = some (.cells #[.bool false, .slice none 0 0, .slice none 0 0] 27 (0, 0)) := by
    have := heap_alloc_new w (.cells #[.bool false, .slice none 0 0, .slice none 0 0] 27)
    simpa using this
  skip
  go_enter Tryd.func17, Tryd.ntmps17
  go_wp2_with fail
  generalize (w.alloc (.cells #[.bool false, .slice none 0 0, .slice none 0 0] 27)) = w0 at *
  refine (rOfI x _ h1 h2).mono ?_
  rintro ee v1 ⟨g1, p1, n1, c1, rfl, hX, hn1, hg⟩
  replace bx0 := (hg.block _ (lt_of_block bx0) (by simp)).trans bx0; replace hW := grown_trans hW hg
  clear hg
  go_wp2_with fail
  refine (refOf_c 1 (by unfold W64; omega) _).mono ?_
  rintro ee v2 ⟨q2, m2, d2, rfl, hY, hm2, hg⟩
  replace hX := hX.keep hg; replace bx0 := (hg.block _ (lt_of_block bx0) (by simp)).trans bx0; replace hW := grown_trans hW hg
  clear hg
  go_wp2_with fail
  refine (over_v 20 hX.z hY.isN HV.out (by omega) (by omega) (by omega)).mono ?_
  rintro ee v3 ⟨g6, p6, n6, c6, q6, m6, d6, rfl, hZ, hn6, hm6, hg⟩
  replace hX := hX.keep hg; replace hY := hY.keep hg; replace bx0 := (hg.block _ (lt_of_block bx0) (by simp)).trans bx0; replace hW := grown_trans hW hg
  clear hg
  obtain ⟨l0, l1, l2, f0, f1, f2⟩ := ratbox_facts bx0
  go_wp2_with fail
  exact bodyPost_ret (v := .agg #[.bool g6, .slice p6 n6 c6, .slice q6 m6 d6]) (by simp [results, Tryd.results17, go_sem, l0, l1, l2, f0, f1, f2]) rfl
    (VPost.close bx0 (by omega) hW hZ (by omega) (by omega))

set_option maxRecDepth 20000 in
set_option maxHeartbeats 4000000 in
theorem rFrac3_z {w : World} (x : Int) (h1 : -9223372036854775808 ≤ x) (h2 : x ≤ 9223372036854775807) :
    Calls Tryd.prog 36 #[.int .i64 x, .int .i64 0] w (VPost w ((x : Rat) / ((0 : Int) : Rat)) 60) := by
  have HV := hid (show ((0 : Int) : Rat) = (x : Rat) / ((0 : Int) : Rat) by
    have : ((0 : Int) : Rat) = 0 := rfl
    rw [this]; grind)
  have hW := (World.grownBy_alloc w (.cells #[.bool false, .slice none 0 0, .slice none 0 0] 27) none)
  have bx0 : (w.alloc (.cells #[.bool false, .slice none 0 0, .slice none 0 0] 27)).heap[w.heap.size]? = some (.cells #[.bool false, .slice none 0 0, .slice none 0 0] 27 (0, 0)) := by
    have := heap_alloc_new w (.cells #[.bool false, .slice none 0 0, .slice none 0 0] 27)
    simpa using this
  skip
  go_enter Tryd.func36, Tryd.ntmps36
  go_wp2_with fail
  generalize (w.alloc (.cells #[.bool false, .slice none 0 0, .slice none 0 0] 27)) = w0 at *
  refine (rOfI x _ h1 h2).mono ?_
  rintro ee v1 ⟨g1, p1, n1, c1, rfl, hX, hn1, hg⟩
  replace bx0 := (hg.block _ (lt_of_block bx0) (by simp)).trans bx0; replace hW := grown_trans hW hg
  clear hg
  go_wp2_with fail
  refine (rOfI 0 _ (by omega) (by omega)).mono ?_
  rintro ee v2 ⟨g2, p2, n2, c2, rfl, hY, hn2, hg⟩
  replace hX := hX.keep hg; replace bx0 := (hg.block _ (lt_of_block bx0) (by simp)).trans bx0; replace hW := grown_trans hW hg
  clear hg
  go_wp2_with fail
  refine (rMake_e 9 hX.z hY.z rfl (by omega) (by omega) (by omega)).mono ?_
  rintro ee v3 ⟨rfl, hg⟩
  replace hX := hX.keep hg; replace hY := hY.keep hg; replace bx0 := (hg.block _ (lt_of_block bx0) (by simp)).trans bx0; replace hW := grown_trans hW hg
  clear hg
  have hg := World.grownBy_alloc v3 (.cells #[.bool false, .slice none 0 0, .slice none 0 0] 27) none
  have hb := heap_alloc_new v3 (.cells #[.bool false, .slice none 0 0, .slice none 0 0] 27)
  replace hX := hX.keep hg; replace hY := hY.keep hg; replace bx0 := (hg.block _ (lt_of_block bx0) (by simp)).trans bx0; replace hW := grown_trans hW hg
  obtain ⟨y0, y1, y2, _, _, _⟩ := ratbox_facts hb
  clear hg hb
  go_wp2_with fail
  generalize v3.alloc (.cells #[.bool false, .slice none 0 0, .slice none 0 0] 27) = u3 at *
  generalize v3.heap.size = K3 at *
  refine (rOf3_v 0 (by omega) (by omega)).mono ?_
  rintro ee v4 ⟨g6, p6, n6, c6, q6, m6, d6, rfl, hZ, hn6, hm6, hg⟩
  replace hX := hX.keep hg; replace hY := hY.keep hg; replace y0 := hg.cell y0 (by simp); replace y1 := hg.cell y1 (by simp)
  replace y2 := hg.cell y2 (by simp); replace bx0 := (hg.block _ (lt_of_block bx0) (by simp)).trans bx0; replace hW := grown_trans hW hg
  clear hg
  obtain ⟨l0, l1, l2, f0, f1, f2⟩ := ratbox_facts bx0
  go_wp2_with fail
  exact bodyPost_ret (v := .agg #[.bool g6, .slice p6 n6 c6, .slice q6 m6 d6]) (by simp [results, Tryd.results36, go_sem, l0, l1, l2, f0, f1, f2]) rfl
    (VPost.close bx0 (by omega) hW (hZ.congr HV.out) (by omega) (by omega))

set_option maxRecDepth 20000 in
set_option maxHeartbeats 4000000 in
theorem rFrac3_n {w : World} (x y : Int) (h0 : y ≠ 0) (h1 : -9223372036854775808 ≤ x) (h2 : x ≤ 9223372036854775807) (h3 : -9223372036854775808 ≤ y) (h4 : y ≤ 9223372036854775807) :
    Calls Tryd.prog 36 #[.int .i64 x, .int .i64 y] w (VPost w ((x : Rat) / (y : Rat)) 60) := by
  have H0 := hid h0
  clear h0
  have hW := (World.grownBy_alloc w (.cells #[.bool false, .slice none 0 0, .slice none 0 0] 27) none)
  have bx0 : (w.alloc (.cells #[.bool false, .slice none 0 0, .slice none 0 0] 27)).heap[w.heap.size]? = some (.cells #[.bool false, .slice none 0 0, .slice none 0 0] 27 (0, 0)) := by
    have := heap_alloc_new w (.cells #[.bool false, .slice none 0 0, .slice none 0 0] 27)
    simpa using this
  skip
  go_enter Tryd.func36, Tryd.ntmps36
  go_wp2_with fail
  generalize (w.alloc (.cells #[.bool false, .slice none 0 0, .slice none 0 0] 27)) = w0 at *
  refine (rOfI x _ h1 h2).mono ?_
  rintro ee v1 ⟨g1, p1, n1, c1, rfl, hX, hn1, hg⟩
  replace bx0 := (hg.block _ (lt_of_block bx0) (by simp)).trans bx0; replace hW := grown_trans hW hg
  clear hg
  go_wp2_with fail
  refine (rOfI y _ h3 h4).mono ?_
  rintro ee v2 ⟨g2, p2, n2, c2, rfl, hY, hn2, hg⟩
  replace hX := hX.keep hg; replace bx0 := (hg.block _ (lt_of_block bx0) (by simp)).trans bx0; replace hW := grown_trans hW hg
  clear hg
  go_wp2_with fail
  refine (rMake_v 9 hX.z hY.z H0.out rfl (by omega) (by omega) (by omega)).mono ?_
  rintro ee v3 ⟨g6, p6, n6, c6, q6, m6, d6, rfl, hZ, hn6, hm6, hg⟩
  replace hX := hX.keep hg; replace hY := hY.keep hg; replace bx0 := (hg.block _ (lt_of_block bx0) (by simp)).trans bx0; replace hW := grown_trans hW hg
  clear hg
  have hg := World.grownBy_alloc v3 (.cells #[.bool g6, .slice p6 n6 c6, .slice q6 m6 d6] 27) none
  have hb := heap_alloc_new v3 (.cells #[.bool g6, .slice p6 n6 c6, .slice q6 m6 d6] 27)
  replace hX := hX.keep hg; replace hY := hY.keep hg; replace hZ := hZ.keep hg; replace bx0 := (hg.block _ (lt_of_block bx0) (by simp)).trans bx0
  replace hW := grown_trans hW hg
  obtain ⟨y0, y1, y2, _, _, _⟩ := ratbox_facts hb
  clear hg hb
  obtain ⟨l0, l1, l2, f0, f1, f2⟩ := ratbox_facts bx0
  go_wp2_with fail
  generalize v3.alloc (.cells #[.bool g6, .slice p6 n6 c6, .slice q6 m6 d6] 27) = u3 at *
  generalize v3.heap.size = K3 at *
  exact bodyPost_ret (v := .agg #[.bool g6, .slice p6 n6 c6, .slice q6 m6 d6]) (by simp [results, Tryd.results36, go_sem, l0, l1, l2, f0, f1, f2]) rfl
    (VPost.close bx0 (by omega) hW hZ (by omega) (by omega))

theorem rFrac3_v {w : World} (x y : Int) (h1 : -9223372036854775808 ≤ x) (h2 : x ≤ 9223372036854775807) (h3 : -9223372036854775808 ≤ y) (h4 : y ≤ 9223372036854775807) :
    Calls Tryd.prog 36 #[.int .i64 x, .int .i64 y] w (VPost w ((x : Rat) / (y : Rat)) 60) := by
  by_cases h0 : y = 0
  · subst h0; exact rFrac3_z x h1 h2
  · exact rFrac3_n x y h0 h1 h2 h3 h4
end Go.Proofs.YthkgldpcgmnaiaaDoor

set_option linter.unusedVariables false
set_option linter.unusedSimpArgs false
namespace Go.Proofs.YthkgldpcgmnaiaaDoor
open Go.RowKit Nm

theorem set3_block {w : World} {G : Nat} {x : Bool} {y z : Option Addr} {a b e f : Nat} {T : TypeId} (hb : w.heap[G]? = some (.cells #[.bool x, .slice y a b, .slice z e f] T (0, 0))) (g : Bool) (p : Option Addr) (n c : Nat) (q : Option Addr) (m d : Nat) :
    (((w.setCell ⟨G, 0, none⟩ (.bool g)).setCell ⟨G, 1, none⟩ (.slice p n c)).setCell ⟨G, 2, none⟩ (.slice q m d)).heap[G]? = some (.cells #[.bool g, .slice p n c, .slice q m d] T (0, 0)) := by
  have h1 := heap_setCell_same w G 0 _ _ (.bool g) hb
  have h2 := heap_setCell_same _ G 1 _ _ (.slice p n c) h1
  have h3 := heap_setCell_same _ G 2 _ _ (.slice q m d) h2
  rw [h3]
  simp
theorem IsV.other3 {w w' : World} {g : Bool} {p q : Option Addr} {n c m d G : Nat} {v : Rat} {x : Bool} {y z : Option Addr} {a b e f : Nat} {T : TypeId} (h : IsV w g p n c q m d v) (hb : w.heap[G]? = some (.cells #[.bool x, .slice y a b, .slice z e f] T (0, 0))) (hg : w.grownBy w' (some G)) : IsV w' g p n c q m d v :=
  ⟨⟨IsC.other3 h.1.1 hb hg, h.1.2⟩, h.2.other3 hb hg⟩

theorem IsV.nm {w : World} {g : Bool} {p q : Option Addr} {n c m d : Nat} {v : Rat} (h : IsV w g p n c q m d v) : IsI w g p n c v.num := h.1
theorem IsV.dn {w : World} {g : Bool} {p q : Option Addr} {n c m d : Nat} {v : Rat} (h : IsV w g p n c q m d v) : IsC w q m d v.den := h.2

/-- both arguments' boxes hold the valid forms -/
def NRel (v u : Rat) (w w1 : World) (b : Nat) (wx : World) : Prop :=
  ∃ (g h : Bool) (p q r s : Option Addr) (n c m d k a l e : Nat), wx.heap[w.heap.size]? = some (.cells #[.bool g, .slice p n c, .slice q m d] 27 (0, 0)) ∧ wx.heap[w.heap.size + 1]? = some (.cells #[.bool h, .slice r k a, .slice s l e] 27 (0, 0)) ∧
    IsV wx g p n c q m d v ∧ IsV wx h r k a s l e u ∧ (n ≤ b ∧ m ≤ b) ∧ (k ≤ b ∧ l ≤ b) ∧ w.grownBy wx none ∧ (∀ j x, w.heap.size + 1 < j → w1.heap[j]? = some x → wx.heap[j]? = some x)
section
variable {v u : Rat} {w w1 w2 : World} {b : Nat} {g h x1 x2 : Bool} {p q r s y1 z1 y2 z2 : Option Addr} {n c m d k a l e a1 b1 e1 f1 a2 b2 e2 f2 : Nat}
theorem nrel_ab (bA : w2.heap[w.heap.size]? = some (.cells #[.bool x1, .slice y1 a1 b1, .slice z1 e1 f1] 27 (0, 0))) (bB : w2.heap[w.heap.size + 1]? = some (.cells #[.bool x2, .slice y2 a2 b2, .slice z2 e2 f2] 27 (0, 0)))
    (hV : IsV w2 g p n c q m d v) (hU : IsV w2 h r k a s l e u) (s1 : n ≤ b ∧ m ≤ b) (s2 : k ≤ b ∧ l ≤ b) (hW : w.grownBy w2 none) (hR : w1.grownBy w2 none) :
    NRel v u w w1 b ((((((w2.setCell ⟨w.heap.size, 0, none⟩ (.bool g)).setCell ⟨w.heap.size, 1, none⟩ (.slice p n c)).setCell ⟨w.heap.size, 2, none⟩ (.slice q m d)).setCell ⟨w.heap.size + 1, 0, none⟩ (.bool h)).setCell ⟨w.heap.size + 1, 1, none⟩ (.slice r k a)).setCell ⟨w.heap.size + 1, 2, none⟩ (.slice s l e)) := by
  have h1 := set3_grown w2 w.heap.size (.bool g) (.slice p n c) (.slice q m d)
  have k1 := set3_block bA g p n c q m d
  have k2 := (h1.block (w.heap.size + 1) (lt_of_block bB) (by simp)).trans bB
  have v1 := hV.other3 bA h1
  have u1 := hU.other3 bA h1
  have g1 := grown_new hW h1 (fun g e => by cases e; omega)
  have r1 : ∀ j x, w.heap.size + 1 < j → w1.heap[j]? = some x → (((w2.setCell ⟨w.heap.size, 0, none⟩ (.bool g)).setCell ⟨w.heap.size, 1, none⟩ (.slice p n c)).setCell ⟨w.heap.size, 2, none⟩ (.slice q m d)).heap[j]? = some x := fun j x hj hx =>
    (h1.block j (lt_of_block ((hR.block j (lt_of_block hx) (by simp)).trans hx)) (by simp; omega)).trans ((hR.block j (lt_of_block hx) (by simp)).trans hx)
  generalize (((w2.setCell ⟨w.heap.size, 0, none⟩ (.bool g)).setCell ⟨w.heap.size, 1, none⟩ (.slice p n c)).setCell ⟨w.heap.size, 2, none⟩ (.slice q m d)) = w3 at *
  have h2 := set3_grown w3 (w.heap.size + 1) (.bool h) (.slice r k a) (.slice s l e)
  exact ⟨g, h, p, q, r, s, n, c, m, d, k, a, l, e, (h2.block _ (lt_of_block k1) (by simp)).trans k1, set3_block k2 h r k a s l e, v1.other3 k2 h2, u1.other3 k2 h2, s1, s2, grown_new g1 h2 (fun g e => by cases e; omega),
    fun j x hj hx => (h2.block j (lt_of_block (r1 j x hj hx)) (by simp; omega)).trans (r1 j x hj hx)⟩
theorem nrel_ba (bA : w2.heap[w.heap.size]? = some (.cells #[.bool x1, .slice y1 a1 b1, .slice z1 e1 f1] 27 (0, 0))) (bB : w2.heap[w.heap.size + 1]? = some (.cells #[.bool x2, .slice y2 a2 b2, .slice z2 e2 f2] 27 (0, 0)))
    (hV : IsV w2 g p n c q m d v) (hU : IsV w2 h r k a s l e u) (s1 : n ≤ b ∧ m ≤ b) (s2 : k ≤ b ∧ l ≤ b) (hW : w.grownBy w2 none) (hR : w1.grownBy w2 none) :
    NRel v u w w1 b ((((((w2.setCell ⟨w.heap.size + 1, 0, none⟩ (.bool h)).setCell ⟨w.heap.size + 1, 1, none⟩ (.slice r k a)).setCell ⟨w.heap.size + 1, 2, none⟩ (.slice s l e)).setCell ⟨w.heap.size, 0, none⟩ (.bool g)).setCell ⟨w.heap.size, 1, none⟩ (.slice p n c)).setCell ⟨w.heap.size, 2, none⟩ (.slice q m d)) := by
  have h1 := set3_grown w2 (w.heap.size + 1) (.bool h) (.slice r k a) (.slice s l e)
  have k1 := set3_block bB h r k a s l e
  have k2 := (h1.block w.heap.size (lt_of_block bA) (by simp)).trans bA
  have v1 := hV.other3 bB h1
  have u1 := hU.other3 bB h1
  have g1 := grown_new hW h1 (fun g e => by cases e; omega)
  have r1 : ∀ j x, w.heap.size + 1 < j → w1.heap[j]? = some x → (((w2.setCell ⟨w.heap.size + 1, 0, none⟩ (.bool h)).setCell ⟨w.heap.size + 1, 1, none⟩ (.slice r k a)).setCell ⟨w.heap.size + 1, 2, none⟩ (.slice s l e)).heap[j]? = some x := fun j x hj hx =>
    (h1.block j (lt_of_block ((hR.block j (lt_of_block hx) (by simp)).trans hx)) (by simp; omega)).trans ((hR.block j (lt_of_block hx) (by simp)).trans hx)
  generalize (((w2.setCell ⟨w.heap.size + 1, 0, none⟩ (.bool h)).setCell ⟨w.heap.size + 1, 1, none⟩ (.slice r k a)).setCell ⟨w.heap.size + 1, 2, none⟩ (.slice s l e)) = w3 at *
  have h2 := set3_grown w3 w.heap.size (.bool g) (.slice p n c) (.slice q m d)
  exact ⟨g, h, p, q, r, s, n, c, m, d, k, a, l, e, set3_block k2 g p n c q m d, (h2.block _ (lt_of_block k1) (by simp)).trans k1, v1.other3 k2 h2, u1.other3 k2 h2, s1, s2, grown_new g1 h2 (fun g e => by cases e; omega),
    fun j x hj hx => (h2.block j (lt_of_block (r1 j x hj hx)) (by simp; omega)).trans (r1 j x hj hx)⟩
end


set_option maxRecDepth 20000 in
set_option maxHeartbeats 4000000 in
theorem rCmp3_v (S : Nat) {w : World} {g1 g2 : Bool} {p1 q1 p2 q2 : Option Addr} {n1 c1 m1 d1 n2 c2 m2 d2 : Nat} {v u : Rat} (hA : IsQ w g1 p1 n1 c1 q1 m1 d1 v) (hB : IsQ w g2 p2 n2 c2 q2 m2 d2 u) (hn1 : n1 ≤ S) (hm1 : m1 ≤ S) (hn2 : n2 ≤ S) (hm2 : m2 ≤ S) (hS : S ≤ 40000) :
    Calls Tryd.prog 16 #[.agg #[.bool g1, .slice p1 n1 c1, .slice q1 m1 d1], .agg #[.bool g2, .slice p2 n2 c2, .slice q2 m2 d2]] w fun e w' => e = .returned (.int .i64 (cmpR v u)) ∧ w.grownBy w' none := by
  have HV := hid (show cmpI (v.num * (u.den : Int)) (u.num * (v.den : Int)) = cmpR v u by rw [cmp_q v.den_pos u.den_pos, Rat.mkRat_self, Rat.mkRat_self])
  have hW := (grown_trans (World.grownBy_alloc w (.cells #[.bool g1, .slice p1 n1 c1, .slice q1 m1 d1] 27) none) (World.grownBy_alloc _ (.cells #[.bool g2, .slice p2 n2 c2, .slice q2 m2 d2] 27) none))
  have bx0 : ((w.alloc (.cells #[.bool g1, .slice p1 n1 c1, .slice q1 m1 d1] 27)).alloc (.cells #[.bool g2, .slice p2 n2 c2, .slice q2 m2 d2] 27)).heap[w.heap.size]? = some (.cells #[.bool g1, .slice p1 n1 c1, .slice q1 m1 d1] 27 (0, 0)) := by
    have h0 := heap_alloc_new w (.cells #[.bool g1, .slice p1 n1 c1, .slice q1 m1 d1] 27)
    have h1 := (World.grownBy_alloc (w.alloc (.cells #[.bool g1, .slice p1 n1 c1, .slice q1 m1 d1] 27)) (.cells #[.bool g2, .slice p2 n2 c2, .slice q2 m2 d2] 27) none).block _ (lt_of_block h0) (by simp)
    have h2 := h1.trans h0
    simpa using h2
  have bx1 : ((w.alloc (.cells #[.bool g1, .slice p1 n1 c1, .slice q1 m1 d1] 27)).alloc (.cells #[.bool g2, .slice p2 n2 c2, .slice q2 m2 d2] 27)).heap[w.heap.size + 1]? = some (.cells #[.bool g2, .slice p2 n2 c2, .slice q2 m2 d2] 27 (0, 0)) := by
    have := heap_alloc_new (w.alloc (.cells #[.bool g1, .slice p1 n1 c1, .slice q1 m1 d1] 27)) (.cells #[.bool g2, .slice p2 n2 c2, .slice q2 m2 d2] 27)
    simpa using this
  replace hA := hA.keep hW; replace hB := hB.keep hW
  go_enter Tryd.func16, Tryd.ntmps16
  go_wp2_with fail
  generalize ((w.alloc (.cells #[.bool g1, .slice p1 n1 c1, .slice q1 m1 d1] 27)).alloc (.cells #[.bool g2, .slice p2 n2 c2, .slice q2 m2 d2] 27)) = w0 at *
  have hR := grown_refl w0 none
  have hg := grown_drew w0 none
  go_cut [2] from 5 to 8 (fun s2 wx => s2 = .pointer (some ⟨w.heap.size, 0, none⟩) ∧ NRel v u w w0 (S + 4) wx)
  case first =>
    replace hA := hA.keep hg; replace hB := hB.keep hg; replace bx0 := (hg.block _ (lt_of_block bx0) (by simp)).trans bx0; replace bx1 := (hg.block _ (lt_of_block bx1) (by simp)).trans bx1; replace hW := grown_trans hW hg; replace hR := grown_trans hR hg
    clear hg
    obtain ⟨x0, x1, x2, _, _, _⟩ := ratbox_facts bx0
    obtain ⟨y0, y1, y2, _, _, _⟩ := ratbox_facts bx1
    go_region_with (first
      | (go_at_call 29; (with_reducible refine (norm_v S hA hn1 hm1 hS).mono ?_); intro ee v1 HH; obtain ⟨g3, p3, n3, c3, q3, m3, d3, he, hV, hn3, hm3, hg⟩ := HH; subst he; replace hA := hA.keep hg; replace hB := hB.keep hg; replace x0 := hg.cell x0 (by simp); replace x1 := hg.cell x1 (by simp); replace x2 := hg.cell x2 (by simp); replace y0 := hg.cell y0 (by simp); replace y1 := hg.cell y1 (by simp); replace y2 := hg.cell y2 (by simp); replace bx0 := (hg.block _ (lt_of_block bx0) (by simp)).trans bx0; replace bx1 := (hg.block _ (lt_of_block bx1) (by simp)).trans bx1; replace hW := grown_trans hW hg; replace hR := grown_trans hR hg; clear hg)
      | (go_at_call 29; (with_reducible refine (norm_v S hB hn2 hm2 hS).mono ?_); intro ee v2 HH; obtain ⟨g4, p4, n4, c4, q4, m4, d4, he, hU, hn4, hm4, hg⟩ := HH; subst he; replace hA := hA.keep hg; replace hB := hB.keep hg; replace hV := hV.keep hg; replace x0 := hg.cell x0 (by simp); replace x1 := hg.cell x1 (by simp); replace x2 := hg.cell x2 (by simp); replace y0 := hg.cell y0 (by simp); replace y1 := hg.cell y1 (by simp); replace y2 := hg.cell y2 (by simp); replace bx0 := (hg.block _ (lt_of_block bx0) (by simp)).trans bx0; replace bx1 := (hg.block _ (lt_of_block bx1) (by simp)).trans bx1; replace hW := grown_trans hW hg; replace hR := grown_trans hR hg; clear hg; have ff := ratbox_facts bx0; obtain ⟨_, _, _, fa0, fa1, fa2⟩ := ff; have ff := ratbox_facts bx1; obtain ⟨_, _, _, fb0, fb1, fb2⟩ := ff))
    all_goals
      go_wp2_with fail
      go_meet
      refine ⟨rfl, ?_⟩
      first
        | with_reducible exact nrel_ab bx0 bx1 hV hU ⟨hn3, hm3⟩ ⟨hn4, hm4⟩ hW hR
        | with_reducible exact nrel_ba bx0 bx1 hV hU ⟨hn3, hm3⟩ ⟨hn4, hm4⟩ hW hR
  case rest =>
    obtain ⟨rfl, g3, g4, p3, q3, p4, q4, n3, c3, m3, d3, n4, c4, m4, d4, bA, bB, hV, hU, ⟨hn3, hm3⟩, ⟨hn4, hm4⟩, hW, hR⟩ := hcut
    obtain ⟨x0, x1, x2, _, _, _⟩ := ratbox_facts bA
    obtain ⟨y0, y1, y2, _, _, _⟩ := ratbox_facts bB
    clear hR hg
    clear bA bB bx0 bx1 hA hB
    go_wp2_with fail
    have hg := grown_drew wc none
    replace hV := hV.keep hg; replace hU := hU.keep hg; replace x0 := hg.cell x0 (by simp); replace x1 := hg.cell x1 (by simp)
    replace x2 := hg.cell x2 (by simp); replace y0 := hg.cell y0 (by simp); replace y1 := hg.cell y1 (by simp); replace y2 := hg.cell y2 (by simp)
    replace hW := grown_trans hW hg
    clear hg
    go_region_held3 (fun w' => w'.cell? ⟨w.heap.size, 0, none⟩ = some (.bool g3) ∧ w'.cell? ⟨w.heap.size, 1, none⟩ = some (.slice p3 n3 c3) ∧ w'.cell? ⟨w.heap.size, 2, none⟩ = some (.slice q3 m3 d3) ∧ w'.cell? ⟨w.heap.size + 1, 0, none⟩ = some (.bool g4) ∧ w'.cell? ⟨w.heap.size + 1, 1, none⟩ = some (.slice p4 n4 c4) ∧ w'.cell? ⟨w.heap.size + 1, 2, none⟩ = some (.slice q4 m4 d4)) ((try go_split_ands) <;> (repeat' apply And.intro) <;> (repeat (first | (with_reducible assumption) | (with_reducible refine (grown_setCell _ _ _).cell ?_ (by first | (simp; omega) | simp)) | (with_reducible refine (World.grownBy_alloc _ _ none).cell ?_ (by simp)) | (with_reducible refine (grown_drew _ none).cell ?_ (by simp)))))
      (first
        | (go_at_call 32; (with_reducible refine (wholeT_any _ _ _).mono ?_); rintro ee v5 ⟨rfl, hg⟩; replace hV := hV.keep hg; replace hU := hU.keep hg; replace hX := hX.keep hg; replace x0 := hg.cell x0 (by simp); replace x1 := hg.cell x1 (by simp); replace x2 := hg.cell x2 (by simp); replace y0 := hg.cell y0 (by simp); replace y1 := hg.cell y1 (by simp); replace y2 := hg.cell y2 (by simp); replace hW := grown_trans hW hg; clear hg)
        | (go_at_call 32; (with_reducible refine (wholeT_any _ _ _).mono ?_); rintro ee v5 ⟨rfl, hg⟩; replace hV := hV.keep hg; replace hU := hU.keep hg; replace x0 := hg.cell x0 (by simp); replace x1 := hg.cell x1 (by simp); replace x2 := hg.cell x2 (by simp); replace y0 := hg.cell y0 (by simp); replace y1 := hg.cell y1 (by simp); replace y2 := hg.cell y2 (by simp); replace hW := grown_trans hW hg; clear hg)
        | (go_at_call 31; (with_reducible refine (rMul_any hV.nm.z (IsZ.of_n hU.dn.isN) (by omega) (by omega)).mono ?_); intro ee v6 HH; obtain ⟨g6, p6, n6, c6, he, hX, hn6, hg⟩ := HH; subst he; replace hV := hV.keep hg; replace hU := hU.keep hg; replace x0 := hg.cell x0 (by simp); replace x1 := hg.cell x1 (by simp); replace x2 := hg.cell x2 (by simp); replace y0 := hg.cell y0 (by simp); replace y1 := hg.cell y1 (by simp); replace y2 := hg.cell y2 (by simp); replace hW := grown_trans hW hg; clear hg)
        | (go_at_call 31; (with_reducible refine (rMul_any hU.nm.z (IsZ.of_n hV.dn.isN) (by omega) (by omega)).mono ?_); intro ee v7 HH; obtain ⟨g7, p7, n7, c7, he, hY, hn7, hg⟩ := HH; subst he; replace hV := hV.keep hg; replace hU := hU.keep hg; replace hX := hX.keep hg; replace x0 := hg.cell x0 (by simp); replace x1 := hg.cell x1 (by simp); replace x2 := hg.cell x2 (by simp); replace y0 := hg.cell y0 (by simp); replace y1 := hg.cell y1 (by simp); replace y2 := hg.cell y2 (by simp); replace hW := grown_trans hW hg; clear hg)
        | (go_at_call 30; (with_reducible refine (rCmp_any hX.z hY.z (by omega) (by omega)).mono ?_); rintro ee v8 ⟨rfl, hg⟩; rw [HV.out]; replace hV := hV.keep hg; replace hU := hU.keep hg; replace hX := hX.keep hg; replace hY := hY.keep hg; replace x0 := hg.cell x0 (by simp); replace x1 := hg.cell x1 (by simp); replace x2 := hg.cell x2 (by simp); replace y0 := hg.cell y0 (by simp); replace y1 := hg.cell y1 (by simp); replace y2 := hg.cell y2 (by simp); replace hW := grown_trans hW hg; clear hg))
    go_wp2_with fail
    go_ret
    exact ⟨rfl, hW⟩

set_option maxRecDepth 20000 in
set_option maxHeartbeats 4000000 in
theorem rEqual3_v (S : Nat) {w : World} {g1 g2 : Bool} {p1 q1 p2 q2 : Option Addr} {n1 c1 m1 d1 n2 c2 m2 d2 : Nat} {v u : Rat} (hA : IsQ w g1 p1 n1 c1 q1 m1 d1 v) (hB : IsQ w g2 p2 n2 c2 q2 m2 d2 u) (hn1 : n1 ≤ S) (hm1 : m1 ≤ S) (hn2 : n2 ≤ S) (hm2 : m2 ≤ S) (hS : S ≤ 40000) :
    Calls Tryd.prog 6 #[.agg #[.bool g1, .slice p1 n1 c1, .slice q1 m1 d1], .agg #[.bool g2, .slice p2 n2 c2, .slice q2 m2 d2]] w fun e w' => e = .returned (.bool (decide (v = u))) ∧ w.grownBy w' none := by
  have EQ := hid (show (cmpR v u == 0) = decide (v = u) by
    by_cases h : v = u
    · rw [decide_eq_true h, cmpR_zero.2 h]; rfl
    · rw [decide_eq_false h]; exact beq_eq_false_iff_ne.2 (fun k => h (cmpR_zero.1 k)))
  have hW := (grown_trans (World.grownBy_alloc w (.cells #[.bool g1, .slice p1 n1 c1, .slice q1 m1 d1] 27) none) (World.grownBy_alloc _ (.cells #[.bool g2, .slice p2 n2 c2, .slice q2 m2 d2] 27) none))
  have bx0 : ((w.alloc (.cells #[.bool g1, .slice p1 n1 c1, .slice q1 m1 d1] 27)).alloc (.cells #[.bool g2, .slice p2 n2 c2, .slice q2 m2 d2] 27)).heap[w.heap.size]? = some (.cells #[.bool g1, .slice p1 n1 c1, .slice q1 m1 d1] 27 (0, 0)) := by
    have h0 := heap_alloc_new w (.cells #[.bool g1, .slice p1 n1 c1, .slice q1 m1 d1] 27)
    have h1 := (World.grownBy_alloc (w.alloc (.cells #[.bool g1, .slice p1 n1 c1, .slice q1 m1 d1] 27)) (.cells #[.bool g2, .slice p2 n2 c2, .slice q2 m2 d2] 27) none).block _ (lt_of_block h0) (by simp)
    have h2 := h1.trans h0
    simpa using h2
  obtain ⟨x0, x1, x2, _, _, _⟩ := ratbox_facts bx0
  clear bx0
  have bx1 : ((w.alloc (.cells #[.bool g1, .slice p1 n1 c1, .slice q1 m1 d1] 27)).alloc (.cells #[.bool g2, .slice p2 n2 c2, .slice q2 m2 d2] 27)).heap[w.heap.size + 1]? = some (.cells #[.bool g2, .slice p2 n2 c2, .slice q2 m2 d2] 27 (0, 0)) := by
    have := heap_alloc_new (w.alloc (.cells #[.bool g1, .slice p1 n1 c1, .slice q1 m1 d1] 27)) (.cells #[.bool g2, .slice p2 n2 c2, .slice q2 m2 d2] 27)
    simpa using this
  obtain ⟨y0, y1, y2, _, _, _⟩ := ratbox_facts bx1
  clear bx1
  replace hA := hA.keep hW; replace hB := hB.keep hW
  go_enter Tryd.func6, Tryd.ntmps6
  go_wp2_with fail
  generalize ((w.alloc (.cells #[.bool g1, .slice p1 n1 c1, .slice q1 m1 d1] 27)).alloc (.cells #[.bool g2, .slice p2 n2 c2, .slice q2 m2 d2] 27)) = w0 at *
  refine (rCmp3_v S hA hB hn1 hm1 hn2 hm2 hS).mono ?_
  rintro ee v1 ⟨rfl, hg⟩
  replace hA := hA.keep hg; replace hB := hB.keep hg; replace x0 := hg.cell x0 (by simp); replace x1 := hg.cell x1 (by simp)
  replace x2 := hg.cell x2 (by simp); replace y0 := hg.cell y0 (by simp); replace y1 := hg.cell y1 (by simp); replace y2 := hg.cell y2 (by simp)
  replace hW := grown_trans hW hg
  clear hg
  go_wp2_with fail
  go_ret
  exact ⟨congrArg Ending.returned (congrArg Value.bool EQ.out), hW⟩




end Go.Proofs.YthkgldpcgmnaiaaDoor

set_option linter.unusedVariables false
set_option linter.unusedSimpArgs false
namespace Go.Proofs.YthkgldpcgmnaiaaDoor
open Go.RowKit Nm

set_option maxRecDepth 20000 in
set_option maxHeartbeats 4000000 in
theorem ratNeg_v (S : Nat) {w : World} (T : Tb w) {g1 : Bool} {p1 q1 : Option Addr} {n1 c1 m1 d1 : Nat} {v : Rat} (hA : IsQ w g1 p1 n1 c1 q1 m1 d1 v) (hn1 : n1 ≤ S) (hm1 : m1 ≤ S) (hS : S ≤ 40000) :
    Calls Tryd.prog 10 #[.agg #[.bool g1, .slice p1 n1 c1, .slice q1 m1 d1]] w (VPost w (-v) (4 * S + 20)) := by
  have HT := hid T
  clear T
  have hW := (grown_trans (World.grownBy_alloc w (.cells #[.bool g1, .slice p1 n1 c1, .slice q1 m1 d1] 27) none) (World.grownBy_alloc _ (.cells #[.bool false, .slice none 0 0, .slice none 0 0] 27) none))
  have bx0 : ((w.alloc (.cells #[.bool g1, .slice p1 n1 c1, .slice q1 m1 d1] 27)).alloc (.cells #[.bool false, .slice none 0 0, .slice none 0 0] 27)).heap[w.heap.size]? = some (.cells #[.bool g1, .slice p1 n1 c1, .slice q1 m1 d1] 27 (0, 0)) := by
    have h0 := heap_alloc_new w (.cells #[.bool g1, .slice p1 n1 c1, .slice q1 m1 d1] 27)
    have h1 := (World.grownBy_alloc (w.alloc (.cells #[.bool g1, .slice p1 n1 c1, .slice q1 m1 d1] 27)) (.cells #[.bool false, .slice none 0 0, .slice none 0 0] 27) none).block _ (lt_of_block h0) (by simp)
    have h2 := h1.trans h0
    simpa using h2
  obtain ⟨x0, x1, x2, _, _, _⟩ := ratbox_facts bx0
  clear bx0
  have bx1 : ((w.alloc (.cells #[.bool g1, .slice p1 n1 c1, .slice q1 m1 d1] 27)).alloc (.cells #[.bool false, .slice none 0 0, .slice none 0 0] 27)).heap[w.heap.size + 1]? = some (.cells #[.bool false, .slice none 0 0, .slice none 0 0] 27 (0, 0)) := by
    have := heap_alloc_new (w.alloc (.cells #[.bool g1, .slice p1 n1 c1, .slice q1 m1 d1] 27)) (.cells #[.bool false, .slice none 0 0, .slice none 0 0] 27)
    simpa using this
  replace hA := hA.keep hW
  go_enter Tryd.func10, Tryd.ntmps10
  go_wp2_with fail
  generalize ((w.alloc (.cells #[.bool g1, .slice p1 n1 c1, .slice q1 m1 d1] 27)).alloc (.cells #[.bool false, .slice none 0 0, .slice none 0 0] 27)) = w0 at *
  refine (opposite_any _ _ _ _ _ _ _).mono ?_
  rintro ee v1 ⟨rfl, hg⟩
  replace hA := hA.keep hg; replace x0 := hg.cell x0 (by simp); replace x1 := hg.cell x1 (by simp); replace x2 := hg.cell x2 (by simp)
  replace bx1 := (hg.block _ (lt_of_block bx1) (by simp)).trans bx1; replace hW := grown_trans hW hg
  clear hg
  obtain ⟨N, D, hX, hE, HV⟩ := hA.opp
  replace HV := hid HV
  clear hA
  go_wp2_with fail
  refine (parts_any hX hE (by omega) (by omega)).mono ?_
  rintro ee v2 ⟨g3, p3, n3, c3, q3, m3, d3, rfl, hN, hD, hn3, hm3, hg⟩
  replace hX := hX.keep hg; replace hE := hE.keep hg; replace x0 := hg.cell x0 (by simp); replace x1 := hg.cell x1 (by simp)
  replace x2 := hg.cell x2 (by simp); replace bx1 := (hg.block _ (lt_of_block bx1) (by simp)).trans bx1; replace hW := grown_trans hW hg
  clear hg
  go_wp2_with fail
  refine (lowest_v (B := S + 5) (HT.out.keep hW) hN hD (pd_pos D) (by omega) (by omega) (by omega)).mono ?_
  rintro ee v3 ⟨g6, p6, n6, c6, q6, m6, d6, rfl, hZ, hn6, hm6, hg⟩
  replace hX := hX.keep hg; replace hE := hE.keep hg; replace hN := hN.keep hg; replace hD := hD.keep hg
  replace x0 := hg.cell x0 (by simp); replace x1 := hg.cell x1 (by simp); replace x2 := hg.cell x2 (by simp); replace bx1 := (hg.block _ (lt_of_block bx1) (by simp)).trans bx1
  replace hW := grown_trans hW hg
  clear hg
  obtain ⟨l0, l1, l2, f0, f1, f2⟩ := ratbox_facts bx1
  go_wp2_with fail
  exact bodyPost_ret (v := .agg #[.bool g6, .slice p6 n6 c6, .slice q6 m6 d6]) (by simp [results, Tryd.results10, go_sem, l0, l1, l2, f0, f1, f2]) rfl
    (VPost.close bx1 (by omega) hW (hZ.congr ((pq N D).trans HV.out.symm)) (by omega) (by omega))

set_option maxHeartbeats 1000000 in
theorem same_ne (a b : Option Addr) (n c d : Nat) (xs ys : List Nat) (w : World) (h : IRd w .u16 a n c xs) (k : IRd w .u16 b n d ys) (hne : xs ≠ ys) :
    Calls Tryd.prog 13 #[.slice a n c, .slice b n d] w fun e w' => e = .returned (.bool false) ∧ w.grownBy w' none := by
  have hmax := h.max
  have hcap := h.cap
  have HL := hid h.len
  have HK := hid k.len
  have HN := hid hne
  clear hne
  go_enter Tryd.func13, Tryd.ntmps13
  go_wp2_with fail
  go_loopw [5] (fun i wr => ∃ j : Nat, j ≤ n ∧ i = .int .i64 j ∧ w.grownBy wr none ∧ Hid (∀ l, l < j → xs[l]? = ys[l]?)) (fun i _ => n - (intOf i).toNat)
  case atStart => exact ⟨0, Nat.zero_le _, rfl, grown_refl _ _, hid fun l h => by omega⟩
  case round =>
    obtain ⟨i, hi, rfl, hgr, HE⟩ := hrel
    by_cases hlt : i < n
    · have hiu : i < xs.length := by rw [HL.out]; exact hlt
      have hiv : i < ys.length := by rw [HK.out]; exact hlt
      obtain ⟨b1, o1, rfl, hc1⟩ := h.cel i hiu
      obtain ⟨b2, o2, rfl, hc2⟩ := k.cel i hiv
      have hd1 := hgr.cell hc1 (by simp)
      have hd2 := hgr.cell hc2 (by simp)
      have e1 := hid (show xs[i]? = some xs[i] by simp [hiu])
      have e2 := hid (show ys[i]? = some ys[i] by simp [hiv])
      generalize xs[i] = x at *
      generalize ys[i] = y at *
      clear hc1 hc2
      have hi0 : (0 : Int) ≤ (i : Int) := by omega
      have hil : (i : Int) < (n : Int) := by omega
      by_cases hxy : x = y
      · subst hxy
        go_wp2
        go_quiet (fail)
        go_wp2
        refine ⟨⟨i + 1, by omega, rfl, gdN hgr _, hid fun l hl => ?_⟩, by simp [intOf]; omega⟩
        by_cases e : l = i
        · subst e; rw [e1.out, e2.out]
        · exact HE.out l (by omega)
      · have hb : (((x : Int) != (y : Int)) = true) := by simp; omega
        go_wp2
        go_quiet (fail)
        go_wp2
        go_ret
        exact ⟨rfl, gdN hgr _⟩
    · obtain rfl : i = n := by omega
      exact absurd (List.ext_getElem? fun l => by
        by_cases hl : l < i
        · exact HE.out l hl
        · rw [List.getElem?_eq_none (by have := HL.out; omega), List.getElem?_eq_none (by have := HK.out; omega)]) HN.out

theorem same_d {w : World} {p q : Option Addr} {n c m d N M : Nat} (hA : IsC w p n c N) (hB : IsC w q m d M) :
    Calls Tryd.prog 13 #[.slice p n c, .slice q m d] w fun e w' => e = .returned (.bool (decide (N = M))) ∧ w.grownBy w' none := by
  by_cases e : N = M
  · rw [decide_eq_true e]; exact same_c hA hB e
  rw [decide_eq_false e]
  by_cases hl : n = m
  · subst hl
    refine same_ne p q n c d _ _ w hA hB (fun h => e ?_)
    rw [← V_dg (B := 65536) (by omega) N, h, V_dg (by omega)]
  · have hmax := IRd.max hA
    have hmax2 := IRd.max hB
    have t0 : (((n : Int) != (m : Int)) = true) := by simp; omega
    go_enter Tryd.func13, Tryd.ntmps13
    go_wp2
    go_ret
    exact ⟨rfl, grown_refl _ _⟩

end Go.Proofs.YthkgldpcgmnaiaaDoor

set_option linter.unusedVariables false
set_option linter.unusedSimpArgs false
namespace Go.Proofs.YthkgldpcgmnaiaaDoor
open Go.RowKit Nm

theorem cut16 (p : Nat) (hp : p < 16) : 2 ^ p * 2 ^ (16 - p) = 65536 := by rw [← Nat.pow_add, show p + (16 - p) = 16 by omega]

theorem or16 (a x p : Nat) (hp : p < 16) (ha : a < 2 ^ p) : bits .or .u16 (a : Int) ((x * 2 ^ p % 65536 : Nat) : Int) = ((a + x * 2 ^ p % 65536 : Nat) : Int) ∧ a + x * 2 ^ p % 65536 < 65536 := by
  have hlow := shl_low (x := x) (cut16 p hp)
  have hX : x * 2 ^ p % 65536 < 65536 := Nat.mod_lt _ (by decide)
  have hj := nat_join p (x * 2 ^ p % 65536) a (by rw [hlow]; exact Nat.mul_mod_left _ _) ha
  have hb : a + x * 2 ^ p % 65536 < 65536 := by
    have h1 : x % 2 ^ (16 - p) < 2 ^ (16 - p) := Nat.mod_lt _ (Nat.pow_pos (by omega))
    have h2 := Nat.mul_le_mul_right (2 ^ p) (show x % 2 ^ (16 - p) + 1 ≤ 2 ^ (16 - p) from h1)
    rw [Nat.add_mul, Nat.one_mul, Nat.mul_comm (2 ^ (16 - p)), cut16 p hp, ← hlow] at h2
    omega
  refine ⟨?_, hb⟩
  rw [u16_or_nat _ _ (by omega) hX, Nat.or_comm, hj, Nat.add_comm]

end Go.Proofs.YthkgldpcgmnaiaaDoor

set_option linter.unusedVariables false
namespace Nm
/-- what is known of the root when it has k + 1 bits -/
structure RInv (N half k A : Nat) : Prop where
  lo : (A - 1) * (A - 1) < N / 2 ^ (2 * half - 2 * k)
  hi : N / 2 ^ (2 * half - 2 * k) < (A + 1) * (A + 1)
  one : 1 ≤ A

theorem RInv.start {N half : Nat} (h1 : 2 ^ (2 * half) ≤ N) (h2 : N < 2 ^ (2 * half + 2)) : RInv N half 0 1 := by
  have hp : 0 < 2 ^ (2 * half) := Nat.pow_pos (by omega)
  have a : 1 ≤ N / 2 ^ (2 * half) := (Nat.le_div_iff_mul_le hp).2 (by omega)
  have b : N / 2 ^ (2 * half) < 4 := Nat.div_lt_of_lt_mul (by rw [Nat.pow_add] at h2; omega)
  refine ⟨?_, ?_, Nat.le_refl _⟩
  · simp; omega
  · simp; omega

theorem RInv.pow_le {N half k A : Nat} (h : RInv N half k A) (hN : 2 ^ (2 * half) ≤ N) (hk : k ≤ half) : 2 ^ k ≤ A := by
  refine Nat.le_of_not_lt fun hlt => ?_
  have h1 : (A + 1) * (A + 1) ≤ 2 ^ k * 2 ^ k := Nat.mul_le_mul hlt hlt
  have h2 : 2 ^ k * 2 ^ k ≤ N / 2 ^ (2 * half - 2 * k) := by
    refine (Nat.le_div_iff_mul_le (Nat.pow_pos (by omega))).2 ?_
    rw [← Nat.pow_add, ← Nat.pow_add, show k + k + (2 * half - 2 * k) = 2 * half by omega]; exact hN
  have := h.hi
  omega

theorem RInv.next {N half k j A B : Nat} (h : RInv N half k A) (hN : 2 ^ (2 * half) ≤ N) (hkj : k < j) (hj : j ≤ half) (hj2 : j ≤ 2 * k + 1) (hB : B = A * 2 ^ (j - k - 1) + N / 2 ^ (2 * half - k - j + 1) / A) : RInv N half j B := by
  have hp := h.pow_le hN (by omega)
  have e1 : N / 2 ^ (2 * half - 2 * k) = N / 2 ^ (2 * half - 2 * j) / (2 ^ (j - k) * 2 ^ (j - k)) := by
    rw [Nat.div_div_eq_div_mul, ← Nat.pow_add, ← Nat.pow_add]; congr 2; omega
  have e2 : N / 2 ^ (2 * half - k - j + 1) = N / 2 ^ (2 * half - 2 * j) / (2 * 2 ^ (j - k)) := by
    rw [Nat.div_div_eq_div_mul, ← Nat.pow_succ', ← Nat.pow_add]; congr 2; omega
  have h1 := h.lo
  have h2 := h.hi
  rw [e2] at hB
  have hap : 2 ^ (j - k) ≤ 2 * A := by
    have : 2 ^ (j - k) ≤ 2 ^ (k + 1) := Nat.pow_le_pow_right (by omega) (by omega)
    rw [Nat.pow_succ] at this; omega
  obtain ⟨r1, r2, r3⟩ := newton A (j - k) (N / 2 ^ (2 * half - 2 * j)) (N / 2 ^ (2 * half - 2 * k)) (2 ^ (j - k)) rfl (by omega) h1 h2 h.one e1 hap B hB
  exact ⟨r1, r2, r3⟩

theorem RInv.done {N half A : Nat} (h : RInv N half half A) : (A - 1) * (A - 1) < N ∧ N < (A + 1) * (A + 1) := by
  have h1 := h.lo
  have h2 := h.hi
  rw [Nat.sub_self, Nat.pow_zero, Nat.div_one] at h1 h2
  exact ⟨h1, h2⟩

theorem RInv.le {N half k A : Nat} (h : RInv N half k A) (hN : 1 ≤ N) : A ≤ N := by
  have h1 := h.lo
  have h2 : N / 2 ^ (2 * half - 2 * k) ≤ N := Nat.div_le_self _ _
  rcases Nat.lt_or_ge A 2 with h3 | h3
  · omega
  · have := Nat.mul_le_mul_left (A - 1) (show 1 ≤ A - 1 by omega)
    omega

/-- the whole root of a number is unique -/
theorem root_unique {N a b : Nat} (h1 : a * a ≤ N) (h2 : N < (a + 1) * (a + 1)) (k1 : b * b ≤ N) (k2 : N < (b + 1) * (b + 1)) : a = b := by
  rcases Nat.lt_trichotomy a b with h | h | h
  · have := Nat.mul_le_mul (show a + 1 ≤ b from h) (show a + 1 ≤ b from h); omega
  · exact h
  · have := Nat.mul_le_mul (show b + 1 ≤ a from h) (show b + 1 ≤ a from h); omega
end Nm

set_option linter.unusedVariables false
set_option linter.unusedSimpArgs false
namespace Go.Proofs.YthkgldpcgmnaiaaDoor
open Go.RowKit Nm

theorem len_any (x : Nat) (hx : x < W64) (w : World) :
    Calls Tryd.prog 22 #[.int .u64 x] w fun e w' => ∃ l : Nat, l ≤ 64 ∧ e = .returned (.int .i64 l) ∧ Hid (l = Lib.bitLen x) ∧ w = w' := by
  go_enter Tryd.func22, Tryd.ntmps22
  go_wp2_with (go_at_call 41; refine (len64_any x hx _).mono ?_; rintro e w' ⟨l, hl, HL, rfl, rfl⟩)
  go_ret
  exact ⟨l, hl, rfl, HL, rfl⟩

/-- what Sqrt returns -/
def RtPost (w : World) (N n : Nat) (e : Ending) (w' : World) : Prop :=
  ∃ (R : Nat) (p1 : Option Addr) (n1 c1 : Nat) (p2 : Option Addr) (n2 c2 : Nat), e = .returned (.tuple #[.slice p1 n1 c1, .slice p2 n2 c2]) ∧ R * R ≤ N ∧ N < (R + 1) * (R + 1) ∧ IsC w' p1 n1 c1 R ∧ IsC w' p2 n2 c2 (N - R * R) ∧ n1 ≤ n + 1 ∧ n2 ≤ n ∧ w.grownBy w' none

end Go.Proofs.YthkgldpcgmnaiaaDoor

set_option linter.unusedVariables false
set_option linter.unusedSimpArgs false
namespace Nm
open Go Go.RowKit

theorem blk0 (w : World) (A : Obj) : (w.alloc A).heap[w.heap.size]? = some A := heap_alloc_new w A
theorem blk1 (w : World) (A B : Obj) : ((w.alloc A).alloc B).heap[w.heap.size]? = some A := (heap_alloc_old _ _ (by simp)).trans (heap_alloc_new w A)
theorem blk2 (w : World) (A B C : Obj) : (((w.alloc A).alloc B).alloc C).heap[w.heap.size]? = some A := (heap_alloc_old _ _ (by simp; omega)).trans (blk1 w A B)

section
variable {w : World} {G : Nat} {x y z u : Value} {T : TypeId}
theorem box4 (hb : w.heap[G]? = some (.cells #[x, y, z, u] T (0, 0))) :
    (w.cell? ⟨G, 0, none⟩ = some x ∧ w.cell? ⟨G, 1, none⟩ = some y ∧ w.cell? ⟨G, 2, none⟩ = some z ∧ w.cell? ⟨G, 3, none⟩ = some u) ∧ w.frozen? ⟨G, 0, none⟩ = false ∧ w.frozen? ⟨G, 1, none⟩ = false ∧ w.frozen? ⟨G, 2, none⟩ = false ∧ w.frozen? ⟨G, 3, none⟩ = false := by
  have k0 := cell_of_row w G 0 _ _ _ hb
  have k1 := cell_of_row w G 1 _ _ _ hb
  have k2 := cell_of_row w G 2 _ _ _ hb
  have k3 := cell_of_row w G 3 _ _ _ hb
  simp at k0 k1 k2 k3
  exact ⟨⟨k0, k1, k2, k3⟩, frozen_of_row w G 0 _ _ hb, frozen_of_row w G 1 _ _ hb, frozen_of_row w G 2 _ _ hb, frozen_of_row w G 3 _ _ hb⟩
theorem set4 (hb : w.heap[G]? = some (.cells #[x, y, z, u] T (0, 0))) (A B C D : Value) :
    ((((w.setCell ⟨G, 0, none⟩ A).setCell ⟨G, 1, none⟩ B).setCell ⟨G, 2, none⟩ C).setCell ⟨G, 3, none⟩ D).heap[G]? = some (.cells #[A, B, C, D] T (0, 0)) := by
  have h1 := heap_setCell_same w G 0 _ _ A hb
  have h2 := heap_setCell_same _ G 1 _ _ B h1
  have h3 := heap_setCell_same _ G 2 _ _ C h2
  have h4 := heap_setCell_same _ G 3 _ _ D h3
  simpa using h4
theorem set4_grown (w : World) (G : Nat) (A B C D : Value) : w.grownBy ((((w.setCell ⟨G, 0, none⟩ A).setCell ⟨G, 1, none⟩ B).setCell ⟨G, 2, none⟩ C).setCell ⟨G, 3, none⟩ D) (some G) :=
  grown_trans (grown_setCell w ⟨G, 0, none⟩ A) (grown_trans (grown_setCell _ ⟨G, 1, none⟩ B) (grown_trans (grown_setCell _ ⟨G, 2, none⟩ C) (grown_setCell _ ⟨G, 3, none⟩ D)))
theorem set1_grown {w0 w : World} (h : w0.grownBy w none) (G o : Nat) (A : Value) (hG : w0.heap.size ≤ G) : w0.grownBy (w.setCell ⟨G, o, none⟩ A) none :=
  grown_new h (grown_setCell w ⟨G, o, none⟩ A) fun g e => by cases e; exact hG
theorem set4_new {w0 w : World} (h : w0.grownBy w none) (G : Nat) (A B C D : Value) (hG : w0.heap.size ≤ G) : w0.grownBy ((((w.setCell ⟨G, 0, none⟩ A).setCell ⟨G, 1, none⟩ B).setCell ⟨G, 2, none⟩ C).setCell ⟨G, 3, none⟩ D) none :=
  grown_new h (set4_grown w G A B C D) fun g e => by cases e; exact hG
theorem keepB {w' : World} {O : Obj} (hb : w.heap[G]? = some O) (hg : w.grownBy w' none) : w'.heap[G]? = some O := (hg.block G (lt_of_block hb) (by simp)).trans hb
end
end Nm

set_option linter.unusedVariables false
set_option linter.unusedSimpArgs false
namespace Go.Proofs.YthkgldpcgmnaiaaDoor
open Go Go.RowKit Nm
/-- numerator and denominator after the digits of m -/
def fr (m : Nat) : Nat × Nat := if m ≤ 1 then (1, 1) else if m % 2 = 1 then ((fr (m / 2)).1 + (fr (m / 2)).2, (fr (m / 2)).2) else ((fr (m / 2)).1, (fr (m / 2)).1 + (fr (m / 2)).2)
  termination_by m
  decreasing_by all_goals omega
theorem fr_one : fr 1 = (1, 1) := by rw [fr]; simp
theorem fr_odd {m : Nat} (h : 2 ≤ m) (h1 : m % 2 = 1) : fr m = ((fr (m / 2)).1 + (fr (m / 2)).2, (fr (m / 2)).2) := by
  conv => lhs; rw [fr]
  rw [if_neg (by omega), if_pos h1]
theorem fr_even {m : Nat} (h : 2 ≤ m) (h1 : ¬ m % 2 = 1) : fr m = ((fr (m / 2)).1, (fr (m / 2)).1 + (fr (m / 2)).2) := by
  conv => lhs; rw [fr]
  rw [if_neg (by omega), if_neg h1]
theorem fr_le (m : Nat) : 1 ≤ m → 1 ≤ (fr m).1 ∧ 1 ≤ (fr m).2 ∧ (fr m).1 + (fr m).2 ≤ m + 1 := by
  induction m using Nat.strongRecOn with
  | _ m ih =>
    intro h
    by_cases h2 : m = 1
    · subst h2; rw [fr_one]; simp
    · obtain ⟨a, b, c⟩ := ih (m / 2) (by omega) (by omega)
      by_cases h1 : m % 2 = 1
      · rw [fr_odd (by omega) h1]; dsimp only; omega
      · rw [fr_even (by omega) h1]; dsimp only; omega
theorem half_dig (j i : Nat) : j / 2 ^ (i + 1) = (j / 2 ^ i) / 2 := by rw [Nat.pow_succ, Nat.div_div_eq_div_mul]
theorem fr_dig1 {j i A B : Nat} (h : 1 ≤ j / 2 ^ (i + 1)) (hf : fr (j / 2 ^ (i + 1)) = (A, B)) (h1 : j / 2 ^ i % 2 = 1) : fr (j / 2 ^ i) = (A + B, B) := by
  rw [half_dig] at h hf
  rw [fr_odd (by omega) h1, hf]
theorem fr_dig0 {j i A B : Nat} (h : 1 ≤ j / 2 ^ (i + 1)) (hf : fr (j / 2 ^ (i + 1)) = (A, B)) (h1 : ¬ j / 2 ^ i % 2 = 1) : fr (j / 2 ^ i) = (A, A + B) := by
  rw [half_dig] at h hf
  rw [fr_even (by omega) h1, hf]
theorem dig_z {x : Nat} (h : x < 2) (h1 : x % 2 = 0) : x = 0 := by omega
theorem dig_o {x : Nat} (h : x < 2) (h1 : x % 2 = 1) : x = 1 := by omega
theorem dig_b {x : Nat} (h1 : ¬ x % 2 = 0) : x % 2 = 1 := by omega
theorem dig_le {j i : Nat} (h : 1 ≤ j / 2 ^ (i + 1)) : 1 ≤ j / 2 ^ i := by
  rw [half_dig] at h
  omega
theorem top_one {x l : Nat} (hl : 1 ≤ l) (h1 : 2 ^ (l - 1) ≤ x) (h2 : x < 2 ^ l) : x / 2 ^ (l - 1) = 1 := by
  have e : 2 ^ l = 2 * 2 ^ (l - 1) := by
    obtain ⟨k, rfl⟩ : ∃ k, l = k + 1 := ⟨l - 1, by omega⟩
    rw [Nat.pow_succ, Nat.mul_comm]; rfl
  exact Nat.div_eq_of_lt_le (by omega) (by omega)
theorem fr_sum {j n A B : Nat} (hj : j ≤ 4611686018427387904) (h : 1 ≤ j / 2 ^ n) (hf : fr (j / 2 ^ n) = (A, B)) : A + B ≤ 4611686018427387905 := by
  obtain ⟨-, -, h3⟩ := fr_le _ h
  have : j / 2 ^ n ≤ j := Nat.div_le_self _ _
  rw [hf] at h3
  dsimp only at h3
  omega
theorem i64_and1 (n : Int) : bits .and .i64 n 1 = n % 2 := by
  have h1 : (BitVec.ofInt 64 1).toNat = 2 ^ 1 - 1 := by decide
  have key : (BitVec.ofInt 64 n &&& BitVec.ofInt 64 1).toNat = (n % ((2 ^ 64 : Nat) : Int)).toNat % 2 ^ 1 := by
    rw [BitVec.toNat_and, BitVec.toNat_ofInt, h1, Nat.and_two_pow_sub_one_eq_mod]
  show IntKind.i64.wrap ((BitVec.ofInt 64 n &&& BitVec.ofInt 64 1).toNat : Nat) = n % 2
  rw [key, IntKind.wrap_i64]
  omega
set_option maxRecDepth 100000 in
theorem rDigit_v (j i : Nat) (hj : j ≤ 9223372036854775807) (hi : i ≤ 62) (w : World) :
    Calls Tryd.prog 35 #[.int .i64 j, .int .i64 i] w fun e w' => e = .returned (.int .i64 ((j / 2 ^ i % 2 : Nat) : Int)) ∧ w = w' := by
  have hb : bits .and .i64 ((j : Int) / 2 ^ i) 1 = ((j / 2 ^ i % 2 : Nat) : Int) := by rw [i64_and1]; simp
  generalize j / 2 ^ i % 2 = z at *
  go_enter Tryd.func35, Tryd.ntmps35
  go_wp2_with fail
  go_ret
  exact ⟨rfl, rfl⟩
set_option maxRecDepth 100000 in
set_option maxHeartbeats 16000000 in
theorem pos_v {w : World} (T : Tb w) {j : Nat} (h1 : 1 ≤ j) (h2 : j ≤ 4611686018427387904) :
    Calls Tryd.prog 9 #[.int .i64 j] w (VPost w ((((fr j).1 : Nat) : Int) / (((fr j).2 : Nat) : Int)) 60) := by
  have HW := hid (World.grownBy_alloc w (.cells #[.bool false, .slice none 0 0, .slice none 0 0] 27) none)
  have HT := hid (T.keep HW.out)
  have HB := hid (blk0 w (.cells #[.bool false, .slice none 0 0, .slice none 0 0] 27 (0, 0)))
  have HD : Hid (j / 2 ^ 0 = j) := hid (by simp)
  have HL : Hid (∀ l : Nat, l = Lib.bitLen j → 1 ≤ l ∧ l ≤ 63 ∧ j / 2 ^ (l - 1) = 1) := hid fun l hl => by
    subst hl
    rcases bitLen_spec j (by unfold W64; omega) with ⟨h, -⟩ | ⟨h3, h4, h5⟩
    · omega
    · exact ⟨h3, Lib.bitLen_le j 63 (by omega) (by omega), top_one h3 h4 h5⟩
  clear T
  go_enter Tryd.func9, Tryd.ntmps9
  go_upto_region 1 with fail
  generalize (w.alloc _) = w0 at *
  go_upto_region 3 with (go_at_call 22; (with_reducible refine (len_any j (by unfold W64; omega) _).mono ?_); rintro e w1 ⟨l, hl64, rfl, hL, rfl⟩; obtain ⟨hl1, hl63, hL1⟩ := HL.out l hL.out; clear hL)
  have HS : Hid (1 ≤ j / 2 ^ (l - 1) ∧ fr (j / 2 ^ (l - 1)) = (1, 1)) := hid (by rw [hL1]; exact ⟨Nat.le_refl _, fr_one⟩)
  have hl2 : ((l : Int) - 2) = ((l - 1 : Nat) : Int) - 1 := by omega
  clear hL1
  go_loopw [3, 4, 5] (fun x y z wr => ∃ (n A B : Nat) (q : Int), x = .int .i64 A ∧ y = .int .i64 B ∧ z = .int .i64 q ∧ q = (n : Int) - 1 ∧ n ≤ 62 ∧ A + B ≤ 4611686018427387905 ∧ Hid (1 ≤ j / 2 ^ n ∧ fr (j / 2 ^ n) = (A, B)) ∧ wr = w0) (fun _ _ z _ => (intOf z + 1).toNat)
  case atStart => exact ⟨l - 1, 1, 1, (l : Int) - 2, rfl, rfl, rfl, hl2, by omega, by omega, HS, rfl⟩
  case round =>
    clear HS
    obtain ⟨n, A, B, q, rfl, rfl, rfl, hq, hn, hAB, HF, rfl⟩ := hrel
    cases n with
    | zero =>
      obtain rfl : q = -1 := by omega
      have HV : Hid ((((A : Nat) : Int) : Rat) / (((B : Nat) : Int) : Rat) = (((fr j).1 : Nat) : Int) / (((fr j).2 : Nat) : Int)) := hid (by have h := HF.out.2; rw [HD.out] at h; rw [h])
      clear hq HF HL HD
      go_wp2_with fail
      refine (ratFrac_v HT.out A B (by omega) (by omega) (by omega) (by omega)).mono ?_
      rintro ee v1 ⟨g6, p6, n6, c6, q6, m6, d6, rfl, hZ, hn6, hm6, hg⟩
      have bx1 := (hg.block _ (lt_of_block HB.out) (by simp)).trans HB.out; replace HW := hid (grown_trans HW.out hg)
      clear hg
      obtain ⟨l0, l1, l2, f0, f1, f2⟩ := ratbox_facts bx1
      have HC := hid (VPost.close bx1 (by omega) HW.out (hZ.congr HV.out) (by omega) (by omega))
      clear hZ bx1
      go_wp2_with fail
      exact bodyPost_ret (v := .agg #[.bool g6, .slice p6 n6 c6, .slice q6 m6 d6]) (by simp [results, Tryd.results9, go_sem, l0, l1, l2, f0, f1, f2]) rfl HC.out
    | succ i =>
      obtain rfl : q = (i : Int) := by omega
      by_cases hb : j / 2 ^ i % 2 = 1
      · have hb1 : bits .and .i64 ((j : Int) / 2 ^ i) 1 = 1 := by
          rw [i64_and1]
          have e : ((j : Int) / 2 ^ i) % 2 = ((j / 2 ^ i % 2 : Nat) : Int) := by simp
          rw [e, hb]; rfl
        have HF2 := hid (And.intro (dig_le HF.out.1) (fr_dig1 HF.out.1 HF.out.2 hb))
        have hs := fr_sum h2 HF2.out.1 HF2.out.2
        clear hb HF hq HL HD
        go_wp2_with fail
        exact ⟨⟨i, A + B, B, (i : Int) - 1, by go_num, rfl, rfl, rfl, by omega, by omega, HF2, trivial⟩, by simp [intOf]⟩
      · have hb1 : bits .and .i64 ((j : Int) / 2 ^ i) 1 = 0 := by
          rw [i64_and1]
          have e : ((j : Int) / 2 ^ i) % 2 = ((j / 2 ^ i % 2 : Nat) : Int) := by simp
          rw [e]; omega
        have HF2 := hid (And.intro (dig_le HF.out.1) (fr_dig0 HF.out.1 HF.out.2 hb))
        have hs := fr_sum h2 HF2.out.1 HF2.out.2
        clear hb HF hq HL HD
        go_wp2_with fail
        exact ⟨⟨i, A, A + B, (i : Int) - 1, rfl, by go_num, rfl, rfl, by omega, by omega, HF2, trivial⟩, by simp [intOf]⟩
set_option maxRecDepth 100000 in
set_option maxHeartbeats 16000000 in
theorem rPos_v {w : World} (T : Tb w) {j : Nat} (h1 : 1 ≤ j) (h2 : j ≤ 4611686018427387904) :
    Calls Tryd.prog 18 #[.int .i64 j] w (VPost w ((((fr j).1 : Nat) : Int) / (((fr j).2 : Nat) : Int)) 60) := by
  have HW := hid (World.grownBy_alloc w (.cells #[.bool false, .slice none 0 0, .slice none 0 0] 27) none)
  have HT := hid (T.keep HW.out)
  have HB := hid (blk0 w (.cells #[.bool false, .slice none 0 0, .slice none 0 0] 27 (0, 0)))
  have HD : Hid (j / 2 ^ 0 = j) := hid (by simp)
  have H62 : Hid (j < 2 ^ (62 + 1)) := hid (by omega)
  have HDI := hid fun (i : Nat) (hi : i ≤ 62) W => rDigit_v j i (by omega) hi W
  clear T
  go_enter Tryd.func18, Tryd.ntmps18
  go_upto_region 1 with fail
  generalize (w.alloc _) = w0 at *
  go_upto_region 3 with fail
  go_loopw [5] (fun x wr => ∃ (n : Nat), x = .int .i64 n ∧ n ≤ 62 ∧ Hid (j < 2 ^ (n + 1)) ∧ wr = w0) (fun x _ => (intOf x).toNat)
  case atStart => exact ⟨62, rfl, by omega, H62, rfl⟩
  case round =>
    clear H62
    obtain ⟨n, rfl, hn, HJ, rfl⟩ := hrel
    obtain ⟨z, hz⟩ : ∃ z, j / 2 ^ n % 2 = z := ⟨_, rfl⟩
    have HDG := hid (HDI.out n hn wr)
    rw [hz] at HDG
    have hlt2 : j / 2 ^ n < 2 := by
      have h := HJ.out
      rw [Nat.pow_succ] at h
      exact Nat.div_lt_of_lt_mul h
    by_cases h0 : z = 0
    · subst h0
      have h00 : j / 2 ^ n = 0 := dig_z hlt2 hz
      have hlt : j < 2 ^ n := by
        rcases Nat.div_eq_zero_iff.1 h00 with h | h
        · exact absurd h (Nat.ne_of_gt (Nat.two_pow_pos n))
        · exact h
      have hn0 : 1 ≤ n := by
        rcases Nat.eq_zero_or_pos n with h | h
        · subst h; simp at hlt; omega
        · exact h
      obtain ⟨m, hm⟩ : ∃ m, n = m + 1 := ⟨n - 1, by omega⟩
      have HLT : Hid (j < 2 ^ (m + 1)) := hid (by rw [← hm]; exact hlt)
      have e1 : (n : Int) - 1 = (m : Int) := by omega
      clear HD HDI hz hlt2 h00 hlt HJ hm
      go_wp2_with (go_at_call 35; (with_reducible refine HDG.out.mono ?_); rintro e w1 ⟨rfl, rfl⟩)
      exact ⟨⟨m, by go_num, by omega, HLT, trivial⟩, by simp [intOf]; omega⟩
    · obtain rfl : z = 1 := by rw [← hz] at h0 ⊢; exact dig_b h0
      have h11 : j / 2 ^ n = 1 := dig_o hlt2 hz
      have HS : Hid (1 ≤ j / 2 ^ n ∧ fr (j / 2 ^ n) = (1, 1)) := hid (by rw [h11]; exact ⟨Nat.le_refl _, fr_one⟩)
      clear hz hlt2 h11 HJ h0
      go_upto_region 4 with (go_at_call 35; (with_reducible refine HDG.out.mono ?_); rintro e w1 ⟨rfl, rfl⟩)
      clear HDG
      go_upto_region 6 with fail
      go_loopw [3, 4, 6] (fun x y z wq => ∃ (n A B : Nat) (q : Int), x = .int .i64 A ∧ y = .int .i64 B ∧ z = .int .i64 q ∧ q = (n : Int) - 1 ∧ n ≤ 62 ∧ A + B ≤ 4611686018427387905 ∧ Hid (1 ≤ j / 2 ^ n ∧ fr (j / 2 ^ n) = (A, B)) ∧ wq = wr) (fun _ _ z _ => (intOf z + 1).toNat)
      case atStart => exact ⟨n, 1, 1, (n : Int) - 1, rfl, rfl, rfl, rfl, by omega, by omega, HS, rfl⟩
      case round =>
        clear HS
        obtain ⟨n2, A, B, q, rfl, rfl, rfl, hq, hn2, hAB, HF, rfl⟩ := hrel
        cases n2 with
        | zero =>
          obtain rfl : q = -1 := by omega
          have HV : Hid ((((A : Nat) : Int) : Rat) / (((B : Nat) : Int) : Rat) = (((fr j).1 : Nat) : Int) / (((fr j).2 : Nat) : Int)) := hid (by have h := HF.out.2; rw [HD.out] at h; rw [h])
          clear hq HF HDI HD
          go_wp2_with fail
          refine (rFrac3_v A B (by omega) (by omega) (by omega) (by omega)).mono ?_
          rintro ee v1 ⟨g6, p6, n6, c6, q6, m6, d6, rfl, hZ, hn6, hm6, hg⟩
          have bx1 := (hg.block _ (lt_of_block HB.out) (by simp)).trans HB.out; replace HW := hid (grown_trans HW.out hg)
          clear hg
          obtain ⟨l0, l1, l2, f0, f1, f2⟩ := ratbox_facts bx1
          have HC := hid (VPost.close bx1 (by omega) HW.out (hZ.congr HV.out) (by omega) (by omega))
          clear hZ bx1
          go_wp2_with fail
          exact bodyPost_ret (v := .agg #[.bool g6, .slice p6 n6 c6, .slice q6 m6 d6]) (by simp [results, Tryd.results18, go_sem, l0, l1, l2, f0, f1, f2]) rfl HC.out
        | succ i =>
          obtain rfl : q = (i : Int) := by omega
          obtain ⟨z, hz⟩ : ∃ z, j / 2 ^ i % 2 = z := ⟨_, rfl⟩
          have HDG := hid (HDI.out i (by omega) wr)
          rw [hz] at HDG
          by_cases hb : z = 1
          · subst hb
            have HF2 := hid (And.intro (dig_le HF.out.1) (fr_dig1 HF.out.1 HF.out.2 hz))
            have hs := fr_sum h2 HF2.out.1 HF2.out.2
            clear hz HF hq HD HDI
            go_wp2_with (go_at_call 35; (with_reducible refine HDG.out.mono ?_); rintro e w1 ⟨rfl, rfl⟩)
            exact ⟨⟨i, A + B, B, (i : Int) - 1, by go_num, rfl, rfl, rfl, by omega, by omega, HF2, trivial⟩, by simp [intOf]⟩
          · have HF2 := hid (And.intro (dig_le HF.out.1) (fr_dig0 HF.out.1 HF.out.2 (by omega)))
            have hs := fr_sum h2 HF2.out.1 HF2.out.2
            have hzi : ¬ ((z : Int) = 1) := by omega
            clear hz HF hq HD HDI
            go_wp2_with (go_at_call 35; (with_reducible refine HDG.out.mono ?_); rintro e w1 ⟨rfl, rfl⟩)
            exact ⟨⟨i, A, A + B, (i : Int) - 1, rfl, by go_num, rfl, rfl, by omega, by omega, HF2, trivial⟩, by simp [intOf]⟩
end Go.Proofs.YthkgldpcgmnaiaaDoor

set_option linter.unusedVariables false
set_option linter.unusedSimpArgs false
namespace Go.Proofs.YthkgldpcgmnaiaaDoor
open Go Go.RowKit Nm
/-- the positive number q(j) -/
def qj (j : Nat) : Rat := (((fr j).1 : Nat) : Int) / (((fr j).2 : Nat) : Int)
/-- the value of the number k -/
def vq (k : Int) : Rat := if k ≤ 0 then ((0 : Int) : Rat) else if k % 2 = 1 then qj (k.toNat / 2 + 1) else - qj (k.toNat / 2)
theorem posq_v {w : World} (T : Tb w) {j : Nat} (h1 : 1 ≤ j) (h2 : j ≤ 4611686018427387904) {x : Int} (hx : x = (j : Int)) : Calls Tryd.prog 9 #[.int .i64 x] w (VPost w (qj j) 60) := hx ▸ pos_v T h1 h2
theorem rposq_v {w : World} (T : Tb w) {j : Nat} (h1 : 1 ≤ j) (h2 : j ≤ 4611686018427387904) {x : Int} (hx : x = (j : Int)) : Calls Tryd.prog 18 #[.int .i64 x] w (VPost w (qj j) 60) := hx ▸ rPos_v T h1 h2
theorem vq_zero {k : Int} (h : k ≤ 0) : vq k = ((0 : Int) : Rat) := if_pos h
theorem vq_odd {k : Nat} (h : 0 < k) (h1 : k % 2 = 1) : vq k = qj (k / 2 + 1) := by
  unfold vq
  rw [if_neg (by omega), if_pos (by omega), Int.toNat_natCast]
theorem vq_even {k : Nat} (h : 0 < k) (h1 : k % 2 = 0) : vq k = - qj (k / 2) := by
  unfold vq
  rw [if_neg (by omega), if_neg (by omega), Int.toNat_natCast]
set_option maxRecDepth 100000 in
set_option maxHeartbeats 16000000 in
theorem value_v {w : World} (T : Tb w) (k : Int) (hk1 : -9223372036854775808 ≤ k) (hk2 : k ≤ 9223372036854775807) :
    Calls Tryd.prog 4 #[.int .i64 k] w (VPost w (vq k) 300) := by
  have HW := hid (World.grownBy_alloc w (.cells #[.bool false, .slice none 0 0, .slice none 0 0] 27) none)
  have HT := hid (T.keep HW.out)
  have HB := hid (blk0 w (.cells #[.bool false, .slice none 0 0, .slice none 0 0] 27 (0, 0)))
  clear T
  by_cases h0 : k ≤ 0
  · have HV := hid (vq_zero h0).symm
    go_enter Tryd.func4, Tryd.ntmps4
    go_upto_region 1 with fail
    generalize (w.alloc _) = w0 at *
    go_wp2_with fail
    refine (ratOf_v 0 _ (by omega) (by omega)).mono ?_
    rintro ee w1 ⟨g1, p1, n1, c1, q1, m1, d1, rfl, hZ1, hn1, hm1, hg⟩
    replace HW := hid (grown_trans HW.out hg); replace HT := hid (HT.out.keep hg); replace HB := hid (keepB HB.out hg)
    have HZ1 := hid hZ1
    clear hg hZ1
    have bx1 := HB.out
    obtain ⟨l0, l1, l2, f0, f1, f2⟩ := ratbox_facts bx1
    have HC := hid (VPost.close bx1 (Nat.le_refl _) HW.out (HZ1.out.congr HV.out) (B := 300) (by omega) (by omega))
    clear bx1
    go_wp2_with fail
    exact bodyPost_ret (v := .agg #[.bool g1, .slice p1 n1 c1, .slice q1 m1 d1]) (by simp [results, Tryd.results4, go_sem, l0, l1, l2, f0, f1, f2]) rfl HC.out
  · obtain ⟨k, rfl⟩ := Int.eq_ofNat_of_zero_le (show 0 ≤ k by omega)
    have hkp : 0 < k := by omega
    by_cases hod : k % 2 = 1
    · have hod0 := hod
      have hkm : ((k : Int).tmod 2) = 1 := by rw [Int.tmod_eq_emod_of_nonneg (by omega)]; omega
      obtain ⟨j, hj⟩ : ∃ j, k / 2 + 1 = j := ⟨_, rfl⟩
      have hj1 : 1 ≤ j := by omega
      have hj2 : j ≤ 4611686018427387904 := by omega
      have HV := hid (vq_odd hkp hod)
      have hjj := hid (show (k : Int) / 2 + 1 = (j : Int) by omega)
      rw [hj] at HV
      clear hj hod
      go_enter Tryd.func4, Tryd.ntmps4
      go_upto_region 1 with fail
      generalize (w.alloc _) = w0 at *
      go_upto_region 4 with (go_at_call 9; (with_reducible refine (posq_v HT.out hj1 hj2 hjj.out).mono ?_); rintro ee w1 ⟨g1, p1, n1, c1, q1, m1, d1, rfl, hZ1, hn1, hm1, hg⟩; replace HW := hid (grown_trans HW.out hg); replace HT := hid (HT.out.keep hg); replace HB := hid (keepB HB.out hg); have HZ1 := hid hZ1; clear hg hZ1; obtain ⟨i0, i1, i2, e0, e1, e2⟩ := ratbox_facts (blk0 w1 (.cells #[.bool false, .slice none 0 0, .slice none 0 0] 27 (0, 0))))
      have gB := World.grownBy_alloc w1 (.cells #[.bool g1, .slice p1 n1 c1, .slice q1 m1 d1] 27 (0, 0)) none
      have B3 := hid (blk0 w1 (.cells #[.bool g1, .slice p1 n1 c1, .slice q1 m1 d1] 27 (0, 0)))
      replace HW := hid (grown_trans HW.out gB); replace HT := hid (HT.out.keep gB); replace HB := hid (keepB HB.out gB); replace HZ1 := hid (HZ1.out.keep gB)
      clear gB
      clear i0 i1 i2 e0 e1 e2
      generalize w1.heap.size = K1 at *
      generalize (w1.alloc _) = w2 at *
      obtain ⟨i0, i1, i2, e0, e1, e2⟩ := ratbox_facts B3.out
      clear HT
      have bx1 := HB.out
      obtain ⟨l0, l1, l2, f0, f1, f2⟩ := ratbox_facts bx1
      have HC := hid (VPost.close bx1 (Nat.le_refl _) HW.out (HZ1.out.congr HV.out.symm) (B := 300) (by omega) (by omega))
      clear bx1
      go_wp2_with fail
      exact bodyPost_ret (v := .agg #[.bool g1, .slice p1 n1 c1, .slice q1 m1 d1]) (by simp [results, Tryd.results4, go_sem, l0, l1, l2, f0, f1, f2]) rfl HC.out
    · replace hod : k % 2 = 0 := by omega
      have hkm : ((k : Int).tmod 2) = 0 := by rw [Int.tmod_eq_emod_of_nonneg (by omega)]; omega
      obtain ⟨j, hj⟩ : ∃ j, k / 2 = j := ⟨_, rfl⟩
      have hj1 : 1 ≤ j := by omega
      have hj2 : j ≤ 4611686018427387904 := by omega
      have HV := hid (vq_even hkp hod)
      have hjj := hid (show (k : Int) / 2 = (j : Int) by omega)
      rw [hj] at HV
      clear hj hod
      go_enter Tryd.func4, Tryd.ntmps4
      go_upto_region 1 with fail
      generalize (w.alloc _) = w0 at *
      go_upto_region 4 with (go_at_call 9; (with_reducible refine (posq_v HT.out hj1 hj2 hjj.out).mono ?_); rintro ee w1 ⟨g1, p1, n1, c1, q1, m1, d1, rfl, hZ1, hn1, hm1, hg⟩; replace HW := hid (grown_trans HW.out hg); replace HT := hid (HT.out.keep hg); replace HB := hid (keepB HB.out hg); have HZ1 := hid hZ1; clear hg hZ1; obtain ⟨i0, i1, i2, e0, e1, e2⟩ := ratbox_facts (blk0 w1 (.cells #[.bool false, .slice none 0 0, .slice none 0 0] 27 (0, 0))))
      have gB := World.grownBy_alloc w1 (.cells #[.bool g1, .slice p1 n1 c1, .slice q1 m1 d1] 27 (0, 0)) none
      have B3 := hid (blk0 w1 (.cells #[.bool g1, .slice p1 n1 c1, .slice q1 m1 d1] 27 (0, 0)))
      replace HW := hid (grown_trans HW.out gB); replace HT := hid (HT.out.keep gB); replace HB := hid (keepB HB.out gB); replace HZ1 := hid (HZ1.out.keep gB)
      clear gB
      clear i0 i1 i2 e0 e1 e2
      generalize w1.heap.size = K1 at *
      generalize (w1.alloc _) = w2 at *
      obtain ⟨i0, i1, i2, e0, e1, e2⟩ := ratbox_facts B3.out
      go_wp2_with fail
      refine (ratNeg_v 60 HT.out HZ1.out.q (by omega) (by omega) (by omega)).mono ?_
      rintro ee w2 ⟨g2, p2, n2, c2, q2, m2, d2, rfl, hZ2, hn2, hm2, hg⟩
      replace HW := hid (grown_trans HW.out hg); replace HT := hid (HT.out.keep hg); replace HB := hid (keepB HB.out hg)
      have HZ2 := hid hZ2
      clear hg hZ2
      clear i0 i1 i2 e0 e1 e2 HZ1
      have bx1 := HB.out
      obtain ⟨l0, l1, l2, f0, f1, f2⟩ := ratbox_facts bx1
      have HC := hid (VPost.close bx1 (Nat.le_refl _) HW.out (HZ2.out.congr HV.out.symm) (B := 300) (by omega) (by omega))
      clear bx1
      go_wp2_with fail
      exact bodyPost_ret (v := .agg #[.bool g2, .slice p2 n2 c2, .slice q2 m2 d2]) (by simp [results, Tryd.results4, go_sem, l0, l1, l2, f0, f1, f2]) rfl HC.out
set_option maxRecDepth 100000 in
set_option maxHeartbeats 16000000 in
theorem rValue_v {w : World} (T : Tb w) (k : Int) (hk1 : -9223372036854775808 ≤ k) (hk2 : k ≤ 9223372036854775807) :
    Calls Tryd.prog 7 #[.int .i64 k] w (VPost w (vq k) 300) := by
  have HW := hid (World.grownBy_alloc w (.cells #[.bool false, .slice none 0 0, .slice none 0 0] 27) none)
  have HT := hid (T.keep HW.out)
  have HB := hid (blk0 w (.cells #[.bool false, .slice none 0 0, .slice none 0 0] 27 (0, 0)))
  clear T
  by_cases h0 : k ≤ 0
  · have HV := hid (vq_zero h0).symm
    go_enter Tryd.func7, Tryd.ntmps7
    go_upto_region 1 with fail
    generalize (w.alloc _) = w0 at *
    go_wp2_with fail
    refine (rOf3_v 0 (by omega) (by omega)).mono ?_
    rintro ee w1 ⟨g1, p1, n1, c1, q1, m1, d1, rfl, hZ1, hn1, hm1, hg⟩
    replace HW := hid (grown_trans HW.out hg); replace HT := hid (HT.out.keep hg); replace HB := hid (keepB HB.out hg)
    have HZ1 := hid hZ1
    clear hg hZ1
    have bx1 := HB.out
    obtain ⟨l0, l1, l2, f0, f1, f2⟩ := ratbox_facts bx1
    have HC := hid (VPost.close bx1 (Nat.le_refl _) HW.out (HZ1.out.congr HV.out) (B := 300) (by omega) (by omega))
    clear bx1
    go_wp2_with fail
    exact bodyPost_ret (v := .agg #[.bool g1, .slice p1 n1 c1, .slice q1 m1 d1]) (by simp [results, Tryd.results7, go_sem, l0, l1, l2, f0, f1, f2]) rfl HC.out
  · obtain ⟨k, rfl⟩ := Int.eq_ofNat_of_zero_le (show 0 ≤ k by omega)
    have hkp : 0 < k := by omega
    by_cases hod : k % 2 = 1
    · have hod0 := hod
      have hkm : ((k : Int).tmod 2) = 1 := by rw [Int.tmod_eq_emod_of_nonneg (by omega)]; omega
      obtain ⟨j, hj⟩ : ∃ j, k / 2 + 1 = j := ⟨_, rfl⟩
      have hj1 : 1 ≤ j := by omega
      have hj2 : j ≤ 4611686018427387904 := by omega
      have HV := hid (vq_odd hkp hod)
      have hjj := hid (show (k : Int) / 2 + 1 = (j : Int) by omega)
      rw [hj] at HV
      clear hj hod
      go_enter Tryd.func7, Tryd.ntmps7
      go_upto_region 1 with fail
      generalize (w.alloc _) = w0 at *
      go_wp2_with fail
      refine (rposq_v HT.out hj1 hj2 hjj.out).mono ?_
      rintro ee w1 ⟨g1, p1, n1, c1, q1, m1, d1, rfl, hZ1, hn1, hm1, hg⟩
      replace HW := hid (grown_trans HW.out hg); replace HT := hid (HT.out.keep hg); replace HB := hid (keepB HB.out hg)
      have HZ1 := hid hZ1
      clear hg hZ1
      clear HT
      have bx1 := HB.out
      obtain ⟨l0, l1, l2, f0, f1, f2⟩ := ratbox_facts bx1
      have HC := hid (VPost.close bx1 (Nat.le_refl _) HW.out (HZ1.out.congr HV.out.symm) (B := 300) (by omega) (by omega))
      clear bx1
      go_wp2_with fail
      exact bodyPost_ret (v := .agg #[.bool g1, .slice p1 n1 c1, .slice q1 m1 d1]) (by simp [results, Tryd.results7, go_sem, l0, l1, l2, f0, f1, f2]) rfl HC.out
    · replace hod : k % 2 = 0 := by omega
      have hkm : ((k : Int).tmod 2) = 0 := by rw [Int.tmod_eq_emod_of_nonneg (by omega)]; omega
      obtain ⟨j, hj⟩ : ∃ j, k / 2 = j := ⟨_, rfl⟩
      have hj1 : 1 ≤ j := by omega
      have hj2 : j ≤ 4611686018427387904 := by omega
      have HV := hid (vq_even hkp hod)
      have hjj := hid (show (k : Int) / 2 = (j : Int) by omega)
      rw [hj] at HV
      clear hj hod
      go_enter Tryd.func7, Tryd.ntmps7
      go_upto_region 1 with fail
      generalize (w.alloc _) = w0 at *
      go_wp2_with fail
      refine (rposq_v HT.out hj1 hj2 hjj.out).mono ?_
      rintro ee w1 ⟨g1, p1, n1, c1, q1, m1, d1, rfl, hZ1, hn1, hm1, hg⟩
      replace HW := hid (grown_trans HW.out hg); replace HT := hid (HT.out.keep hg); replace HB := hid (keepB HB.out hg)
      have HZ1 := hid hZ1
      clear hg hZ1
      go_wp2_with fail
      refine (rNeg3_v 60 HZ1.out.q (by omega) (by omega) (by omega)).mono ?_
      rintro ee w2 ⟨g2, p2, n2, c2, q2, m2, d2, rfl, hZ2, hn2, hm2, hg⟩
      replace HW := hid (grown_trans HW.out hg); replace HT := hid (HT.out.keep hg); replace HB := hid (keepB HB.out hg)
      have HZ2 := hid hZ2
      clear hg hZ2
      clear HZ1
      have bx1 := HB.out
      obtain ⟨l0, l1, l2, f0, f1, f2⟩ := ratbox_facts bx1
      have HC := hid (VPost.close bx1 (Nat.le_refl _) HW.out (HZ2.out.congr HV.out.symm) (B := 300) (by omega) (by omega))
      clear bx1
      go_wp2_with fail
      exact bodyPost_ret (v := .agg #[.bool g2, .slice p2 n2 c2, .slice q2 m2 d2]) (by simp [results, Tryd.results7, go_sem, l0, l1, l2, f0, f1, f2]) rfl HC.out
end Go.Proofs.YthkgldpcgmnaiaaDoor

set_option linter.unusedVariables false
set_option linter.unusedSimpArgs false
namespace Go.Proofs.YthkgldpcgmnaiaaDoor
open Go.RowKit Nm

theorem Can_of_top {xs : List Nat} (hx : Dg 65536 xs) {top : Nat} (htl : top < xs.length) (hl : xs.length = top + 1) (h : xs[top] ≠ 0) : Nm.Can 65536 xs := by
  rw [show xs = trimR xs from ?_]
  · exact Can_trimR hx
  · have e : xs = xs.take top ++ [xs[top]] := by
      rw [← List.take_succ_eq_append_getElem htl, List.take_of_length_le (by omega)]
    rw [e, trimR_snoc h]
theorem IsC.of_top {w : World} {p : Option Addr} {c : Nat} {xs : List Nat} {top : Nat} (hA : IRd w .u16 p (top + 1) c xs) (hx : Dg 65536 xs) (htl : top < xs.length) (hl : xs.length = top + 1) (h : xs[top] ≠ 0) : IsC w p (top + 1) c (V 65536 xs) := by
  have := eq_dg (B := 65536) (by omega) (Can_of_top hx htl hl h)
  unfold IsC
  rw [← this]
  exact hA
theorem IsI.of_top {w : World} {g : Bool} {p : Option Addr} {c : Nat} {xs : List Nat} {top : Nat} (hA : IRd w .u16 p (top + 1) c xs) (hx : Dg 65536 xs) (htl : top < xs.length) (hl : xs.length = top + 1) (h : xs[top] ≠ 0) : IsI w g p (top + 1) c (sg g (V 65536 xs)) := by
  have hC := IsC.of_top hA hx htl hl h
  have hp : 0 < V 65536 xs := by
    rcases hC.zero_len with ⟨h1, _⟩ | ⟨_, h1⟩
    · omega
    · exact h1
  refine ⟨by rw [sg_abs]; exact hC, ?_⟩
  rw [sg_neg, decide_eq_true hp]
  simp
theorem IsV.of_cop {w : World} {g : Bool} {p q : Option Addr} {n c m d D : Nat} {N : Int} (h1 : IsI w g p n c N) (h2 : IsC w q m d D) (hD : 0 < D) (hg : Nat.gcd N.natAbs D = 1) : IsV w g p n c q m d (mkRat N D) :=
  ⟨by rw [← rn_q hD, rn_one hg]; exact h1, by rw [← rd_q hD, rd_one hg]; exact h2⟩
set_option maxHeartbeats 2000000 in
theorem right_ref {w : World} (g : Bool) {p : Option Addr} {n c : Nat} {xs : List Nat} (hA : IRd w .u16 p n c xs) (hx : Dg 65536 xs) :
    ∃ v : Bool, (∀ W, w.grownBy W none → Calls Tryd.prog 11 #[.agg #[.bool g, .slice p n c]] W fun e w' => e = .returned (.bool v) ∧ W.grownBy w' none) ∧ (v = true → IsI w g p n c (sg g (V 65536 xs))) ∧ (v = false → (n = 0 ∧ g = true) ∨ xs.getLast? = some 0) := by
  have hmax := hA.max
  have hcap := hA.cap
  by_cases h0 : n = 0
  · subst h0
    have hnil : xs = [] := List.eq_nil_of_length_eq_zero hA.len
    refine ⟨!g, fun W hW => ?_, fun h => ?_, fun h => .inl ⟨rfl, by simpa using h⟩⟩
    rotate_left 1
    · subst hnil
      have hg : g = false := by simpa using h
      subst hg
      exact ⟨hA, by simp [sg]⟩
    · have hgb := World.grownBy_alloc W (.cells #[.bool g, .slice p 0 c] 25) none
      clear hW
      cases g
      all_goals
        go_enter Tryd.func11, Tryd.ntmps11
        go_wp2
        go_ret
        exact ⟨rfl, hgb⟩
  · obtain ⟨top, rfl⟩ : ∃ top, n = top + 1 := ⟨n - 1, by omega⟩
    have hlen := hA.len
    have htl : top < xs.length := by omega
    have hcan : xs[top] ≠ 0 → IsI w g p (top + 1) c (sg g (V 65536 xs)) := fun h => IsI.of_top hA hx htl hlen h
    obtain ⟨b, o, rfl, hc⟩ := IRd.cel hA top htl
    have hb := World.block_lt_of_cell? _ _ hc
    obtain ⟨t, ht⟩ : ∃ t, t = xs[top] := ⟨_, rfl⟩
    rw [← ht] at hc hcan
    have hlast : xs.getLast? = some t := by
      rw [List.getLast?_eq_getElem?, hlen, ht]
      simp [htl]
    have HL := hid hlast
    clear ht h0 hlen hA hlast
    by_cases h0 : t = 0
    · subst h0
      refine ⟨false, fun W hW => ?_, (fun h => by cases h), fun _ => .inr HL.out⟩
      · have hgb := World.grownBy_alloc W (.cells #[.bool g, .slice (some ⟨b, o, none⟩) (top + 1) c] 25) none
        have hc2 := hgb.cell (hW.cell hc (by simp)) (by simp)
        clear hW hc hb
        go_enter Tryd.func11, Tryd.ntmps11
        go_wp2
        go_ret
        exact ⟨rfl, hgb⟩
    · have hne : (((t : Int) != 0) = true) := by simp; omega
      have hcan2 := hid (hcan h0)
      clear h0 hcan
      refine ⟨true, fun W hW => ?_, fun _ => hcan2.out, fun h => by cases h⟩
      · have hgb := World.grownBy_alloc W (.cells #[.bool g, .slice (some ⟨b, o, none⟩) (top + 1) c] 25) none
        have hc2 := hgb.cell (hW.cell hc (by simp)) (by simp)
        clear hW hc hb
        cases g
        all_goals
          go_enter Tryd.func11, Tryd.ntmps11
          go_wp2
          go_ret
          exact ⟨rfl, hgb⟩

set_option maxHeartbeats 2000000 in
theorem valid_ref {w : World} {p : Option Addr} {n c : Nat} {xs : List Nat} (hA : IRd w .u16 p n c xs) (hx : Dg 65536 xs) :
    ∃ v : Bool, (∀ W, w.grownBy W none → Calls Tryd.prog 12 #[.slice p n c] W fun e w' => e = .returned (.bool v) ∧ W.grownBy w' none) ∧ (v = true → IsC w p n c (V 65536 xs)) ∧ (v = false → xs.getLast? = some 0) := by
  have hmax := hA.max
  have hcap := hA.cap
  by_cases h0 : n = 0
  · subst h0
    have hnil : xs = [] := List.eq_nil_of_length_eq_zero hA.len
    refine ⟨true, fun W hW => ?_, fun _ => by subst hnil; exact hA, fun h => by cases h⟩
    · have hgb := grown_refl W none
      clear hW
      go_enter Tryd.func12, Tryd.ntmps12
      go_wp2
      go_ret
      exact ⟨rfl, hgb⟩
  · obtain ⟨top, rfl⟩ : ∃ top, n = top + 1 := ⟨n - 1, by omega⟩
    have hlen := hA.len
    have htl : top < xs.length := by omega
    have hpos : xs[top] ≠ 0 → IsC w p (top + 1) c (V 65536 xs) := fun h => IsC.of_top hA hx htl hlen h
    obtain ⟨b, o, rfl, hc⟩ := IRd.cel hA top htl
    have hb := World.block_lt_of_cell? _ _ hc
    obtain ⟨t, ht⟩ : ∃ t, t = xs[top] := ⟨_, rfl⟩
    rw [← ht] at hc hpos
    have hlast : xs.getLast? = some t := by
      rw [List.getLast?_eq_getElem?, hlen, ht]
      simp [htl]
    have HL := hid hlast
    clear ht h0 hlen hA hlast
    by_cases h0 : t = 0
    · subst h0
      refine ⟨false, fun W hW => ?_, (fun h => by cases h), fun _ => HL.out⟩
      · have hgb := grown_refl W none
        have hc2 := hW.cell hc (by simp)
        clear hW hc hb
        go_enter Tryd.func12, Tryd.ntmps12
        go_wp2
        go_ret
        exact ⟨rfl, hgb⟩
    · have hne : (((t : Int) != 0) = true) := by simp; omega
      have hp2 := hid (hpos h0)
      clear hpos
      refine ⟨true, fun W hW => ?_, fun _ => hp2.out, fun h => by cases h⟩
      · have hgb := grown_refl W none
        have hc2 := hW.cell hc (by simp)
        clear h0 hW hc hb
        go_enter Tryd.func12, Tryd.ntmps12
        go_wp2
        go_ret
        exact ⟨rfl, hgb⟩

set_option maxRecDepth 20000 in
set_option maxHeartbeats 4000000 in
theorem refRight_f1 {w : World} {g1 : Bool} {p1 q1 : Option Addr} {n1 c1 m1 d1 : Nat} (H1 : ∀ W, w.grownBy W none → Calls Tryd.prog 11 #[.agg #[.bool g1, .slice p1 n1 c1]] W fun e w' => e = .returned (.bool false) ∧ W.grownBy w' none) :
    Calls Tryd.prog 5 #[.agg #[.bool g1, .slice p1 n1 c1, .slice q1 m1 d1]] w fun e w' => e = .returned (.bool false) ∧ w.grownBy w' none := by
  have HH1 := hid H1
  clear H1
  have hW := (World.grownBy_alloc w (.cells #[.bool g1, .slice p1 n1 c1, .slice q1 m1 d1] 27) none)
  have bx0 : (w.alloc (.cells #[.bool g1, .slice p1 n1 c1, .slice q1 m1 d1] 27)).heap[w.heap.size]? = some (.cells #[.bool g1, .slice p1 n1 c1, .slice q1 m1 d1] 27 (0, 0)) := by
    have := heap_alloc_new w (.cells #[.bool g1, .slice p1 n1 c1, .slice q1 m1 d1] 27)
    simpa using this
  obtain ⟨x0, x1, x2, _, _, _⟩ := ratbox_facts bx0
  clear bx0
  skip
  go_enter Tryd.func5, Tryd.ntmps5
  go_wp2_with fail
  generalize (w.alloc (.cells #[.bool g1, .slice p1 n1 c1, .slice q1 m1 d1] 27)) = w0 at *
  refine (HH1.out _ hW).mono ?_
  rintro ee v1 ⟨rfl, hg⟩
  replace x0 := hg.cell x0 (by simp); replace x1 := hg.cell x1 (by simp); replace x2 := hg.cell x2 (by simp); replace hW := grown_trans hW hg
  clear hg
  go_wp2_with fail
  go_ret
  exact ⟨rfl, hW⟩

set_option maxRecDepth 20000 in
set_option maxHeartbeats 4000000 in
theorem refRight_f2 {w : World} {g1 : Bool} {p1 q1 : Option Addr} {n1 c1 m1 d1 : Nat} (H1 : ∀ W, w.grownBy W none → Calls Tryd.prog 11 #[.agg #[.bool g1, .slice p1 n1 c1]] W fun e w' => e = .returned (.bool true) ∧ W.grownBy w' none) (H2 : ∀ W, w.grownBy W none → Calls Tryd.prog 12 #[.slice q1 m1 d1] W fun e w' => e = .returned (.bool false) ∧ W.grownBy w' none) :
    Calls Tryd.prog 5 #[.agg #[.bool g1, .slice p1 n1 c1, .slice q1 m1 d1]] w fun e w' => e = .returned (.bool false) ∧ w.grownBy w' none := by
  have HH1 := hid H1
  have HH2 := hid H2
  clear H1 H2
  have hW := (World.grownBy_alloc w (.cells #[.bool g1, .slice p1 n1 c1, .slice q1 m1 d1] 27) none)
  have bx0 : (w.alloc (.cells #[.bool g1, .slice p1 n1 c1, .slice q1 m1 d1] 27)).heap[w.heap.size]? = some (.cells #[.bool g1, .slice p1 n1 c1, .slice q1 m1 d1] 27 (0, 0)) := by
    have := heap_alloc_new w (.cells #[.bool g1, .slice p1 n1 c1, .slice q1 m1 d1] 27)
    simpa using this
  obtain ⟨x0, x1, x2, _, _, _⟩ := ratbox_facts bx0
  clear bx0
  skip
  go_enter Tryd.func5, Tryd.ntmps5
  go_wp2_with fail
  generalize (w.alloc (.cells #[.bool g1, .slice p1 n1 c1, .slice q1 m1 d1] 27)) = w0 at *
  refine (HH1.out _ hW).mono ?_
  rintro ee v1 ⟨rfl, hg⟩
  replace x0 := hg.cell x0 (by simp); replace x1 := hg.cell x1 (by simp); replace x2 := hg.cell x2 (by simp); replace hW := grown_trans hW hg
  clear hg
  go_wp2_with fail
  refine (HH2.out _ hW).mono ?_
  rintro ee v2 ⟨rfl, hg⟩
  replace x0 := hg.cell x0 (by simp); replace x1 := hg.cell x1 (by simp); replace x2 := hg.cell x2 (by simp); replace hW := grown_trans hW hg
  clear hg
  go_wp2_with fail
  go_ret
  exact ⟨rfl, hW⟩

set_option maxRecDepth 20000 in
set_option maxHeartbeats 4000000 in
theorem refRight_f3 {w : World} {g1 : Bool} {p1 q1 : Option Addr} {n1 c1 d1 : Nat} {N : Int} {b : Bool} (H1 : ∀ W, w.grownBy W none → Calls Tryd.prog 11 #[.agg #[.bool g1, .slice p1 n1 c1]] W fun e w' => e = .returned (.bool true) ∧ W.grownBy w' none) (H2 : ∀ W, w.grownBy W none → Calls Tryd.prog 12 #[.slice q1 0 d1] W fun e w' => e = .returned (.bool true) ∧ W.grownBy w' none) (hA : IsZ w g1 p1 n1 c1 N) (hE : IsN w q1 0 d1 0) (hb : decide (Nat.gcd N.natAbs 0 = 1) = b) (hn1 : n1 ≤ 1100000) :
    Calls Tryd.prog 5 #[.agg #[.bool g1, .slice p1 n1 c1, .slice q1 0 d1]] w fun e w' => e = .returned (.bool false) ∧ w.grownBy w' none := by
  have HH1 := hid H1
  have HH2 := hid H2
  have HB := hid hb
  clear H1 H2 hb
  cases b
  all_goals
    have hW := (World.grownBy_alloc w (.cells #[.bool g1, .slice p1 n1 c1, .slice q1 0 d1] 27) none)
    have bx0 : (w.alloc (.cells #[.bool g1, .slice p1 n1 c1, .slice q1 0 d1] 27)).heap[w.heap.size]? = some (.cells #[.bool g1, .slice p1 n1 c1, .slice q1 0 d1] 27 (0, 0)) := by
      have := heap_alloc_new w (.cells #[.bool g1, .slice p1 n1 c1, .slice q1 0 d1] 27)
      simpa using this
    obtain ⟨x0, x1, x2, _, _, _⟩ := ratbox_facts bx0
    clear bx0
    replace hA := hA.keep hW; replace hE := hE.keep hW
    go_enter Tryd.func5, Tryd.ntmps5
    go_wp2_with fail
    generalize (w.alloc (.cells #[.bool g1, .slice p1 n1 c1, .slice q1 0 d1] 27)) = w0 at *
    refine (HH1.out _ hW).mono ?_
    rintro ee v1 ⟨rfl, hg⟩
    replace hA := hA.keep hg; replace hE := hE.keep hg; replace x0 := hg.cell x0 (by simp); replace x1 := hg.cell x1 (by simp)
    replace x2 := hg.cell x2 (by simp); replace hW := grown_trans hW hg
    clear hg
    go_wp2_with fail
    refine (HH2.out _ hW).mono ?_
    rintro ee v2 ⟨rfl, hg⟩
    replace hA := hA.keep hg; replace hE := hE.keep hg; replace x0 := hg.cell x0 (by simp); replace x1 := hg.cell x1 (by simp)
    replace x2 := hg.cell x2 (by simp); replace hW := grown_trans hW hg
    clear hg
    go_wp2_with fail
    refine (refGcd_n hA.1 hE (by omega) (by omega)).mono ?_
    rintro ee v3 ⟨p3, n3, c3, rfl, hX, hn3, hg⟩
    replace hA := hA.keep hg; replace hE := hE.keep hg; replace x0 := hg.cell x0 (by simp); replace x1 := hg.cell x1 (by simp)
    replace x2 := hg.cell x2 (by simp); replace hW := grown_trans hW hg
    clear hg
    go_wp2_with fail
    refine (refOf_c 1 (by unfold W64; omega) _).mono ?_
    rintro ee v4 ⟨p4, n4, c4, rfl, hY, hn4, hg⟩
    replace hA := hA.keep hg; replace hE := hE.keep hg; replace hX := hX.keep hg; replace x0 := hg.cell x0 (by simp)
    replace x1 := hg.cell x1 (by simp); replace x2 := hg.cell x2 (by simp); replace hW := grown_trans hW hg
    clear hg
    go_wp2_with fail
    refine (same_d hX hY).mono ?_
    rintro ee v5 ⟨rfl, hg⟩
    rw [HB.out]
    replace hA := hA.keep hg; replace hE := hE.keep hg; replace hX := hX.keep hg; replace hY := hY.keep hg
    replace x0 := hg.cell x0 (by simp); replace x1 := hg.cell x1 (by simp); replace x2 := hg.cell x2 (by simp); replace hW := grown_trans hW hg
    clear hg
    go_wp2_with fail
    go_ret
    exact ⟨rfl, hW⟩

set_option maxRecDepth 20000 in
set_option maxHeartbeats 4000000 in
theorem refRight_g {w : World} {g1 : Bool} {p1 q1 : Option Addr} {n1 c1 m1 d1 : Nat} {N : Int} {D : Nat} {b : Bool} (H1 : ∀ W, w.grownBy W none → Calls Tryd.prog 11 #[.agg #[.bool g1, .slice p1 n1 c1]] W fun e w' => e = .returned (.bool true) ∧ W.grownBy w' none) (H2 : ∀ W, w.grownBy W none → Calls Tryd.prog 12 #[.slice q1 m1 d1] W fun e w' => e = .returned (.bool true) ∧ W.grownBy w' none) (hA : IsZ w g1 p1 n1 c1 N) (hE : IsN w q1 m1 d1 D) (h0 : 0 < m1) (hb : decide (Nat.gcd N.natAbs D = 1) = b) (hn1 : n1 ≤ 1100000) (hm1 : m1 ≤ 1100000) :
    Calls Tryd.prog 5 #[.agg #[.bool g1, .slice p1 n1 c1, .slice q1 m1 d1]] w fun e w' => e = .returned (.bool b) ∧ w.grownBy w' none := by
  have HH1 := hid H1
  have HH2 := hid H2
  have HB := hid hb
  have h1 : (0 : Int) < (m1 : Int) := by omega
  clear H1 H2 hb
  cases b
  all_goals
    have hW := (World.grownBy_alloc w (.cells #[.bool g1, .slice p1 n1 c1, .slice q1 m1 d1] 27) none)
    have bx0 : (w.alloc (.cells #[.bool g1, .slice p1 n1 c1, .slice q1 m1 d1] 27)).heap[w.heap.size]? = some (.cells #[.bool g1, .slice p1 n1 c1, .slice q1 m1 d1] 27 (0, 0)) := by
      have := heap_alloc_new w (.cells #[.bool g1, .slice p1 n1 c1, .slice q1 m1 d1] 27)
      simpa using this
    obtain ⟨x0, x1, x2, _, _, _⟩ := ratbox_facts bx0
    clear bx0
    replace hA := hA.keep hW; replace hE := hE.keep hW
    go_enter Tryd.func5, Tryd.ntmps5
    go_wp2_with fail
    generalize (w.alloc (.cells #[.bool g1, .slice p1 n1 c1, .slice q1 m1 d1] 27)) = w0 at *
    refine (HH1.out _ hW).mono ?_
    rintro ee v1 ⟨rfl, hg⟩
    replace hA := hA.keep hg; replace hE := hE.keep hg; replace x0 := hg.cell x0 (by simp); replace x1 := hg.cell x1 (by simp)
    replace x2 := hg.cell x2 (by simp); replace hW := grown_trans hW hg
    clear hg
    go_wp2_with fail
    refine (HH2.out _ hW).mono ?_
    rintro ee v2 ⟨rfl, hg⟩
    replace hA := hA.keep hg; replace hE := hE.keep hg; replace x0 := hg.cell x0 (by simp); replace x1 := hg.cell x1 (by simp)
    replace x2 := hg.cell x2 (by simp); replace hW := grown_trans hW hg
    clear hg
    go_wp2_with fail
    refine (refGcd_n hA.1 hE (by omega) (by omega)).mono ?_
    rintro ee v3 ⟨p3, n3, c3, rfl, hX, hn3, hg⟩
    replace hA := hA.keep hg; replace hE := hE.keep hg; replace x0 := hg.cell x0 (by simp); replace x1 := hg.cell x1 (by simp)
    replace x2 := hg.cell x2 (by simp); replace hW := grown_trans hW hg
    clear hg
    go_wp2_with fail
    refine (refOf_c 1 (by unfold W64; omega) _).mono ?_
    rintro ee v4 ⟨p4, n4, c4, rfl, hY, hn4, hg⟩
    replace hA := hA.keep hg; replace hE := hE.keep hg; replace hX := hX.keep hg; replace x0 := hg.cell x0 (by simp)
    replace x1 := hg.cell x1 (by simp); replace x2 := hg.cell x2 (by simp); replace hW := grown_trans hW hg
    clear hg
    go_wp2_with fail
    refine (same_d hX hY).mono ?_
    rintro ee v5 ⟨rfl, hg⟩
    rw [HB.out]
    replace hA := hA.keep hg; replace hE := hE.keep hg; replace hX := hX.keep hg; replace hY := hY.keep hg
    replace x0 := hg.cell x0 (by simp); replace x1 := hg.cell x1 (by simp); replace x2 := hg.cell x2 (by simp); replace hW := grown_trans hW hg
    clear hg
    go_wp2_with fail
    go_ret
    exact ⟨rfl, hW⟩


theorem right_ref3 {w : World} (g : Bool) {a b : Option Addr} {n c m d : Nat} {xs ys : List Nat} (hr0 : IRd w .u16 a n c xs) (hx : Dg 65536 xs) (hr1 : IRd w .u16 b m d ys) (hy : Dg 65536 ys) (hn : n ≤ 1100000) (hm : m ≤ 1100000) :
    ∃ r : Bool, (∀ W, w.grownBy W none → Calls Tryd.prog 5 #[.agg #[.bool g, .slice a n c, .slice b m d]] W fun e w' => e = .returned (.bool r) ∧ W.grownBy w' none) ∧
      (r = true → IsV w g a n c b m d (mkRat (sg g (V 65536 xs)) (V 65536 ys))) := by
  obtain ⟨vN, N2, NP, -⟩ := right_ref g hr0 hx
  obtain ⟨vD, D2, DP, -⟩ := valid_ref hr1 hy
  have hA := IsZ.of g hr0 hx
  have hE := IsN.of hr1 hy
  cases vN
  · exact ⟨false, fun W hW => refRight_f1 (fun W' h => N2 W' (grown_trans hW h)), fun h => by cases h⟩
  cases vD
  · exact ⟨false, fun W hW => refRight_f2 (fun W' h => N2 W' (grown_trans hW h)) (fun W' h => D2 W' (grown_trans hW h)), fun h => by cases h⟩
  by_cases h0 : m = 0
  · subst h0
    have hz : ys = [] := List.eq_nil_of_length_eq_zero hr1.len
    subst hz
    exact ⟨false, fun W hW => refRight_f3 (fun W' h => N2 W' (grown_trans hW h)) (fun W' h => D2 W' (grown_trans hW h)) (hA.keep hW) (hE.keep hW) rfl hn, fun h => by cases h⟩
  · have hC := DP rfl
    have hp : 0 < V 65536 ys := by
      rcases hC.zero_len with ⟨h1, _⟩ | ⟨_, h1⟩
      · omega
      · exact h1
    exact ⟨_, fun W hW => refRight_g (fun W' h => N2 W' (grown_trans hW h)) (fun W' h => D2 W' (grown_trans hW h)) (hA.keep hW) (hE.keep hW) (by omega) rfl hn hm,
      fun h => IsV.of_cop (NP rfl) hC hp (of_decide_eq_true h)⟩
/-- a valid number is right -/
theorem right_refv {w : World} {g : Bool} {a b : Option Addr} {n c m d : Nat} {v : Rat} (h : IsV w g a n c b m d v) (hn : n ≤ 1100000) (hm : m ≤ 1100000) :
    Calls Tryd.prog 5 #[.agg #[.bool g, .slice a n c, .slice b m d]] w fun e w' => e = .returned (.bool true) ∧ w.grownBy w' none := by
  have c1 := Can_dg (B := 65536) (by omega) v.num.natAbs
  have c2 := Can_dg (B := 65536) (by omega) v.den
  obtain ⟨vN, N2, -, NF⟩ := right_ref g (show IRd w .u16 a n c (dg 65536 v.num.natAbs) from h.1.1) c1.1
  obtain ⟨vD, D2, -, DF⟩ := valid_ref (show IRd w .u16 b m d (dg 65536 v.den) from h.2) c2.1
  have hp := Rat.den_pos v
  obtain rfl : vN = true := by
    cases vN with
    | true => rfl
    | false =>
      exfalso
      rcases NF rfl with ⟨e1, e2⟩ | e
      · have := h.1.2
        rw [e2] at this
        have hl := h.1.1.len
        rw [e1] at hl
        have hz : v.num.natAbs = 0 := by
          have := V_dg (B := 65536) (by omega) v.num.natAbs
          rw [List.eq_nil_of_length_eq_zero hl] at this
          simpa using this.symm
        have hlt : v.num < 0 := of_decide_eq_true (by assumption : true = decide (v.num < 0)).symm
        omega
      · exact c1.2 e
  obtain rfl : vD = true := by
    cases vD with
    | true => rfl
    | false => exact absurd (DF rfl) c2.2
  have h0 : 0 < m := by
    have hl := h.2.len
    rcases Nat.eq_zero_or_pos m with e | e
    · exfalso
      rw [e] at hl
      have := V_dg (B := 65536) (by omega) v.den
      rw [List.eq_nil_of_length_eq_zero hl] at this
      simp at this
      omega
    · exact e
  exact refRight_g (N2) (D2) h.1.z h.2.isN h0 (decide_eq_true v.reduced) hn hm
end Go.Proofs.YthkgldpcgmnaiaaDoor
