/-
  RatU, in one text.
-/
import Derived.Test.YtocfklanejonkaaGreatDoorMrP
import Derived.Test.YtocfklanejonkaaGreatDoorMrR
import Derived.Lib.SmallJoins

set_option linter.unusedVariables false
set_option linter.unusedSimpArgs false
namespace Go.Proofs.YtocfklanejonkaaGreatDoor
open Go.ChangeShapes Go.WideShapes Go.ChangeAt Go.RowKit Nm
open Go

theorem two_facts {w : World} {G : Nat} {x y : Int} {T : TypeId} (hb : w.heap[G]? = some (.cells #[.int .i64 x, .int .i64 y] T (0, 0))) :
    w.cell? ⟨G, 0, none⟩ = some (.int .i64 x) ∧ w.cell? ⟨G, 1, none⟩ = some (.int .i64 y) := by
  have k0 := cell_of_row w G 0 _ _ _ hb
  have k1 := cell_of_row w G 1 _ _ _ hb
  simp at k0 k1
  exact ⟨k0, k1⟩




set_option maxRecDepth 20000 in
set_option maxHeartbeats 4000000 in
theorem rOf3_v {w : World} (x : Int) (h1 : -9223372036854775808 ≤ x) (h2 : x ≤ 9223372036854775807) :
    Calls Tryz.prog 38 #[.int .i64 x] w (VPost w (x : Rat) 20) := by
  have HV := hid (show mkRat x 1 = (x : Rat) by
    rw [Rat.mkRat_eq_div]
    have : ((1 : Nat) : Rat) = 1 := rfl
    rw [this]; grind)
  have hW := (World.grownBy_alloc w (.cells #[.bool false, .slice none 0 0, .slice none 0 0] 27) none)
  have bx0 : (w.alloc (.cells #[.bool false, .slice none 0 0, .slice none 0 0] 27)).heap[w.heap.size]? = some (.cells #[.bool false, .slice none 0 0, .slice none 0 0] 27 (0, 0)) := by
    have := heap_alloc_new w (.cells #[.bool false, .slice none 0 0, .slice none 0 0] 27)
    simpa using this
  skip
  go_enter Tryz.func38, Tryz.ntmps38
  go_wp2_with fail
  generalize (w.alloc (.cells #[.bool false, .slice none 0 0, .slice none 0 0] 27)) = w0 at *
  refine (rOfI x _ h1 h2).mono ?_
  rintro ee v1 ⟨g1, p1, n1, c1, rfl, hX, hn1, hg⟩
  replace bx0 := (hg.block _ (lt_of_block bx0) (by simp)).trans bx0; replace hW := grown_trans hW hg
  clear hg
  go_wp2_with fail
  refine (refOf_c 1 (by unfold W64; omega) _).mono ?_
  rintro ee v2 ⟨q2, m2, d2, rfl, hY, hm2, hg⟩
  replace hX := hX.keep hg; replace bx0 := (hg.block _ (lt_of_block bx0) (by simp)).trans bx0; replace hW := grown_trans hW hg
  clear hg
  go_wp2_with fail
  refine (over_v 20 hX.z hY.isN HV.out (by omega) (by omega) (by omega)).mono ?_
  rintro ee v3 ⟨g6, p6, n6, c6, q6, m6, d6, rfl, hZ, hn6, hm6, hg⟩
  replace hX := hX.keep hg; replace hY := hY.keep hg; replace bx0 := (hg.block _ (lt_of_block bx0) (by simp)).trans bx0; replace hW := grown_trans hW hg
  clear hg
  obtain ⟨l0, l1, l2, f0, f1, f2⟩ := ratbox_facts bx0
  go_wp2_with fail
  exact bodyPost_ret (v := .agg #[.bool g6, .slice p6 n6 c6, .slice q6 m6 d6]) (by simp [results, Tryz.results38, go_sem, l0, l1, l2, f0, f1, f2]) rfl
    (VPost.close bx0 (by omega) hW hZ (by omega) (by omega))

set_option maxRecDepth 20000 in
set_option maxHeartbeats 4000000 in
theorem rFrac3_z {w : World} (x : Int) (h1 : -9223372036854775808 ≤ x) (h2 : x ≤ 9223372036854775807) :
    Calls Tryz.prog 39 #[.int .i64 x, .int .i64 0] w (VPost w ((x : Rat) / ((0 : Int) : Rat)) 60) := by
  have HV := hid (show ((0 : Int) : Rat) = (x : Rat) / ((0 : Int) : Rat) by
    have : ((0 : Int) : Rat) = 0 := rfl
    rw [this]; grind)
  have hW := (World.grownBy_alloc w (.cells #[.bool false, .slice none 0 0, .slice none 0 0] 27) none)
  have bx0 : (w.alloc (.cells #[.bool false, .slice none 0 0, .slice none 0 0] 27)).heap[w.heap.size]? = some (.cells #[.bool false, .slice none 0 0, .slice none 0 0] 27 (0, 0)) := by
    have := heap_alloc_new w (.cells #[.bool false, .slice none 0 0, .slice none 0 0] 27)
    simpa using this
  skip
  go_enter Tryz.func39, Tryz.ntmps39
  go_wp2_with fail
  generalize (w.alloc (.cells #[.bool false, .slice none 0 0, .slice none 0 0] 27)) = w0 at *
  refine (rOfI x _ h1 h2).mono ?_
  rintro ee v1 ⟨g1, p1, n1, c1, rfl, hX, hn1, hg⟩
  replace bx0 := (hg.block _ (lt_of_block bx0) (by simp)).trans bx0; replace hW := grown_trans hW hg
  clear hg
  go_wp2_with fail
  refine (rOfI 0 _ (by omega) (by omega)).mono ?_
  rintro ee v2 ⟨g2, p2, n2, c2, rfl, hY, hn2, hg⟩
  replace hX := hX.keep hg; replace bx0 := (hg.block _ (lt_of_block bx0) (by simp)).trans bx0; replace hW := grown_trans hW hg
  clear hg
  go_wp2_with fail
  refine (rMake_e 9 hX.z hY.z rfl (by omega) (by omega) (by omega)).mono ?_
  rintro ee v3 ⟨rfl, hg⟩
  replace hX := hX.keep hg; replace hY := hY.keep hg; replace bx0 := (hg.block _ (lt_of_block bx0) (by simp)).trans bx0; replace hW := grown_trans hW hg
  clear hg
  have hg := World.grownBy_alloc v3 (.cells #[.bool false, .slice none 0 0, .slice none 0 0] 27) none
  have hb := heap_alloc_new v3 (.cells #[.bool false, .slice none 0 0, .slice none 0 0] 27)
  replace hX := hX.keep hg; replace hY := hY.keep hg; replace bx0 := (hg.block _ (lt_of_block bx0) (by simp)).trans bx0; replace hW := grown_trans hW hg
  obtain ⟨y0, y1, y2, _, _, _⟩ := ratbox_facts hb
  clear hg hb
  go_wp2_with fail
  generalize v3.alloc (.cells #[.bool false, .slice none 0 0, .slice none 0 0] 27) = u3 at *
  generalize v3.heap.size = K3 at *
  refine (rOf3_v 0 (by omega) (by omega)).mono ?_
  rintro ee v4 ⟨g6, p6, n6, c6, q6, m6, d6, rfl, hZ, hn6, hm6, hg⟩
  replace hX := hX.keep hg; replace hY := hY.keep hg; replace y0 := hg.cell y0 (by simp); replace y1 := hg.cell y1 (by simp)
  replace y2 := hg.cell y2 (by simp); replace bx0 := (hg.block _ (lt_of_block bx0) (by simp)).trans bx0; replace hW := grown_trans hW hg
  clear hg
  obtain ⟨l0, l1, l2, f0, f1, f2⟩ := ratbox_facts bx0
  go_wp2_with fail
  exact bodyPost_ret (v := .agg #[.bool g6, .slice p6 n6 c6, .slice q6 m6 d6]) (by simp [results, Tryz.results39, go_sem, l0, l1, l2, f0, f1, f2]) rfl
    (VPost.close bx0 (by omega) hW (hZ.congr HV.out) (by omega) (by omega))

set_option maxRecDepth 20000 in
set_option maxHeartbeats 4000000 in
theorem rFrac3_n {w : World} (x y : Int) (h0 : y ≠ 0) (h1 : -9223372036854775808 ≤ x) (h2 : x ≤ 9223372036854775807) (h3 : -9223372036854775808 ≤ y) (h4 : y ≤ 9223372036854775807) :
    Calls Tryz.prog 39 #[.int .i64 x, .int .i64 y] w (VPost w ((x : Rat) / (y : Rat)) 60) := by
  have H0 := hid h0
  clear h0
  have hW := (World.grownBy_alloc w (.cells #[.bool false, .slice none 0 0, .slice none 0 0] 27) none)
  have bx0 : (w.alloc (.cells #[.bool false, .slice none 0 0, .slice none 0 0] 27)).heap[w.heap.size]? = some (.cells #[.bool false, .slice none 0 0, .slice none 0 0] 27 (0, 0)) := by
    have := heap_alloc_new w (.cells #[.bool false, .slice none 0 0, .slice none 0 0] 27)
    simpa using this
  skip
  go_enter Tryz.func39, Tryz.ntmps39
  go_wp2_with fail
  generalize (w.alloc (.cells #[.bool false, .slice none 0 0, .slice none 0 0] 27)) = w0 at *
  refine (rOfI x _ h1 h2).mono ?_
  rintro ee v1 ⟨g1, p1, n1, c1, rfl, hX, hn1, hg⟩
  replace bx0 := (hg.block _ (lt_of_block bx0) (by simp)).trans bx0; replace hW := grown_trans hW hg
  clear hg
  go_wp2_with fail
  refine (rOfI y _ h3 h4).mono ?_
  rintro ee v2 ⟨g2, p2, n2, c2, rfl, hY, hn2, hg⟩
  replace hX := hX.keep hg; replace bx0 := (hg.block _ (lt_of_block bx0) (by simp)).trans bx0; replace hW := grown_trans hW hg
  clear hg
  go_wp2_with fail
  refine (rMake_v 9 hX.z hY.z H0.out rfl (by omega) (by omega) (by omega)).mono ?_
  rintro ee v3 ⟨g6, p6, n6, c6, q6, m6, d6, rfl, hZ, hn6, hm6, hg⟩
  replace hX := hX.keep hg; replace hY := hY.keep hg; replace bx0 := (hg.block _ (lt_of_block bx0) (by simp)).trans bx0; replace hW := grown_trans hW hg
  clear hg
  have hg := World.grownBy_alloc v3 (.cells #[.bool g6, .slice p6 n6 c6, .slice q6 m6 d6] 27) none
  have hb := heap_alloc_new v3 (.cells #[.bool g6, .slice p6 n6 c6, .slice q6 m6 d6] 27)
  replace hX := hX.keep hg; replace hY := hY.keep hg; replace hZ := hZ.keep hg; replace bx0 := (hg.block _ (lt_of_block bx0) (by simp)).trans bx0
  replace hW := grown_trans hW hg
  obtain ⟨y0, y1, y2, _, _, _⟩ := ratbox_facts hb
  clear hg hb
  obtain ⟨l0, l1, l2, f0, f1, f2⟩ := ratbox_facts bx0
  go_wp2_with fail
  generalize v3.alloc (.cells #[.bool g6, .slice p6 n6 c6, .slice q6 m6 d6] 27) = u3 at *
  generalize v3.heap.size = K3 at *
  exact bodyPost_ret (v := .agg #[.bool g6, .slice p6 n6 c6, .slice q6 m6 d6]) (by simp [results, Tryz.results39, go_sem, l0, l1, l2, f0, f1, f2]) rfl
    (VPost.close bx0 (by omega) hW hZ (by omega) (by omega))

theorem rFrac3_v {w : World} (x y : Int) (h1 : -9223372036854775808 ≤ x) (h2 : x ≤ 9223372036854775807) (h3 : -9223372036854775808 ≤ y) (h4 : y ≤ 9223372036854775807) :
    Calls Tryz.prog 39 #[.int .i64 x, .int .i64 y] w (VPost w ((x : Rat) / (y : Rat)) 60) := by
  by_cases h0 : y = 0
  · subst h0; exact rFrac3_z x h1 h2
  · exact rFrac3_n x y h0 h1 h2 h3 h4
end Go.Proofs.YtocfklanejonkaaGreatDoor
