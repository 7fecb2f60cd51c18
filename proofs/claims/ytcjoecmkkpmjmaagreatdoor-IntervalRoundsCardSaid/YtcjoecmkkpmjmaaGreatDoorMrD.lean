/-
  IvD, in one text.
-/
import Derived.Test.YtcjoecmkkpmjmaaGreatDoorMrV
import Derived.Test.YtcjoecmkkpmjmaaGreatDoorMrS
import Derived.Test.YtcjoecmkkpmjmaaGreatDoorMrA

set_option linter.unusedVariables false
set_option linter.unusedSimpArgs false
namespace Go.Proofs.YtcjoecmkkpmjmaaGreatDoor
open Go.RowKit Nm

theorem IPost.close2 {w w5 : World} {G : Nat} {x : Bool} {y : Option Addr} {a b : Nat} {T : TypeId} {g : Bool} {p : Option Addr} {n c B : Nat} {Z : Int}
    (hW : w5.heap[G]? = some (.cells #[.bool x, .slice y a b] T (0, 0))) (hG : w.heap.size ≤ G) (hg : w.grownBy w5 none) (h : IsI w5 g p n c Z) (hn : n ≤ B) :
    IPost w Z B (.returned (.agg #[.bool g, .slice p n c])) ((w5.setCell ⟨G, 0, none⟩ (.bool g)).setCell ⟨G, 1, none⟩ (.slice p n c)) := by
  have hs := set2_grown w5 G (.bool g) (.slice p n c)
  exact ⟨g, p, n, c, rfl, ⟨h.1.other2 hW hs, h.2⟩, hn, grown_new hg hs (fun g e => by cases e; exact hG)⟩
theorem rvs1 {w : World} {G : Nat} {T : TypeId} {a : RV} (hb : w.heap[G]? = some (.cells #[.bool a.g, .slice a.p a.n a.c, .slice a.q a.m a.d] T (0, 0))) (ha : a.is w) : RVs w G [a] := fun j hj => by
  match j, hj with
  | 0, _ =>
    obtain ⟨k0, k1, k2, _⟩ := ratbox_facts hb
    exact ⟨k0, k1, k2, ha⟩
theorem rvs3 {w : World} {G : Nat} {T : TypeId} {a b c : RV} (hb : w.heap[G]? = some (.cells #[.bool a.g, .slice a.p a.n a.c, .slice a.q a.m a.d, .bool b.g, .slice b.p b.n b.c, .slice b.q b.m b.d, .bool c.g, .slice c.p c.n c.c, .slice c.q c.m c.d] T (0, 0))) (ha : a.is w) (hb' : b.is w) (hc : c.is w) : RVs w G [a, b, c] := fun j hj => by
  have k0 := cell_of_row w G 0 _ _ _ hb
  have k1 := cell_of_row w G 1 _ _ _ hb
  have k2 := cell_of_row w G 2 _ _ _ hb
  have k3 := cell_of_row w G 3 _ _ _ hb
  have k4 := cell_of_row w G 4 _ _ _ hb
  have k5 := cell_of_row w G 5 _ _ _ hb
  have k6 := cell_of_row w G 6 _ _ _ hb
  have k7 := cell_of_row w G 7 _ _ _ hb
  have k8 := cell_of_row w G 8 _ _ _ hb
  simp at k0 k1 k2 k3 k4 k5 k6 k7 k8
  match j, hj with
  | 0, _ => exact ⟨k0, k1, k2, ha⟩
  | 1, _ => exact ⟨k3, k4, k5, hb'⟩
  | 2, _ => exact ⟨k6, k7, k8, hc⟩

theorem isGrid_in {w : World} (z : Int) (h0 : 0 ≤ z) (h1 : z ≤ 200) :
    Calls Tryz.prog 34 #[.int .i64 z] w fun e w' => e = .returned (.bool true) ∧ w = w' := by
  go_enter Tryz.func34, Tryz.ntmps34
  go_wp2
  go_ret
  exact ⟨rfl, rfl⟩

set_option maxRecDepth 20000 in
set_option maxHeartbeats 4000000 in
theorem power_v {w : World} (b : Nat) (hb : b ≤ 400) :
    Calls Tryz.prog 76 #[.int .i64 b] w (IPost w ((2 ^ b : Nat) : Int) 30) := by
  have l1 : (dg 65536 1).length = 1 := by rw [dg_step 1 (by omega)]; simp [dg_zero]
  have HL := hid l1
  have HV := hid (show 1 * 2 ^ b = 2 ^ b from Nat.one_mul _)
  clear l1
  have hW := (World.grownBy_alloc w (.cells #[.bool false, .slice none 0 0] 25) none)
  have bx0 : (w.alloc (.cells #[.bool false, .slice none 0 0] 25)).heap[w.heap.size]? = some (.cells #[.bool false, .slice none 0 0] 25 (0, 0)) := by
    have := heap_alloc_new w (.cells #[.bool false, .slice none 0 0] 25)
    simpa using this
  skip
  go_enter Tryz.func76, Tryz.ntmps76
  go_wp2_with fail
  generalize (w.alloc (.cells #[.bool false, .slice none 0 0] 25)) = w0 at *
  refine (of_at 1 1 rfl (by unfold W64; omega) _).mono ?_
  rintro ee v1 ⟨p1, c1, rfl, hX, hg⟩
  replace bx0 := (hg.block _ (lt_of_block bx0) (by simp)).trans bx0; replace hW := grown_trans hW hg
  clear hg
  have hX2 : IsC v1 p1 (dg 65536 1).length c1 1 := hX
  clear hX
  go_wp2_with fail
  refine (natShift_up b hX2.isN (by rw [HL.out]; omega) (by omega)).mono ?_
  rintro ee v2 ⟨p2, n2, c2, rfl, hY, hn2, hg⟩
  replace bx0 := (hg.block _ (lt_of_block bx0) (by simp)).trans bx0; replace hW := grown_trans hW hg
  clear hg
  rw [HL.out] at hn2
  obtain ⟨l0, l1, f0, f1⟩ := intbox_facts bx0
  go_wp2_with fail
  exact bodyPost_ret (v := .agg #[.bool false, .slice p2 n2 c2]) (by simp [results, Tryz.results76, go_sem, l0, l1, f0, f1]) rfl
    (IPost.close2 bx0 (by omega) hW ⟨hY.congr (by rw [HV.out]; simp), (decide_eq_false (Int.not_lt.mpr (Int.natCast_nonneg _))).symm⟩ (by omega))

theorem IsV.num {w : World} {g : Bool} {p q : Option Addr} {n c m d : Nat} {v : Rat} (h : IsV w g p n c q m d v) : IsI w g p n c v.num := h.1
theorem IsQ.scaled {w : World} {g g' : Bool} {p q p' : Option Addr} {n c m d n' c' : Nat} {v u : Rat} {Z : Int} (hv : mkRat Z v.den = u) (h : IsI w g' p' n' c' Z) (k : IsV w g p n c q m d v) : IsQ w g' p' n' c' q m d u := ⟨_, _, h.z, k.2.isN, hv.symm⟩
theorem scale_val (v : Rat) (b : Nat) : mkRat (v.num * ((2 ^ b : Nat) : Int)) v.den = v * ((2 ^ b : Nat) : Rat) := by
  have h := Rat.mkRat_mul_mkRat v.num ((2 ^ b : Nat) : Int) v.den 1
  rw [Rat.mkRat_self, Nat.mul_one] at h
  rw [← h, Rat.mkRat_eq_div (((2 ^ b : Nat) : Int)), Rat.intCast_natCast]
  have : ((1 : Nat) : Rat) = 1 := rfl
  rw [this]
  generalize ((2 ^ b : Nat) : Rat) = x
  grind
set_option maxRecDepth 20000 in
set_option maxHeartbeats 4000000 in
theorem scaledFloor_v (S : Nat) {w : World} {g1 : Bool} {p1 q1 : Option Addr} {n1 c1 m1 d1 : Nat} {v : Rat} (hV : IsV w g1 p1 n1 c1 q1 m1 d1 v) (b : Nat) (hb : b ≤ 400) (hn1 : n1 ≤ S) (hm1 : m1 ≤ S) (hS : S ≤ 8000) :
    Calls Tryz.prog 36 #[.agg #[.bool g1, .slice p1 n1 c1, .slice q1 m1 d1], .int .i64 b] w (IPost w (v * ((2 ^ b : Nat) : Rat)).floor (S + 50)) := by
  have HV := hid (scale_val v b)
  generalize v * ((2 ^ b : Nat) : Rat) = u at *
  have hW := (grown_trans (World.grownBy_alloc w (.cells #[.bool g1, .slice p1 n1 c1, .slice q1 m1 d1] 27) none) (World.grownBy_alloc _ (.cells #[.bool false, .slice none 0 0] 25) none))
  have bx0 : ((w.alloc (.cells #[.bool g1, .slice p1 n1 c1, .slice q1 m1 d1] 27)).alloc (.cells #[.bool false, .slice none 0 0] 25)).heap[w.heap.size]? = some (.cells #[.bool g1, .slice p1 n1 c1, .slice q1 m1 d1] 27 (0, 0)) := by
    have h0 := heap_alloc_new w (.cells #[.bool g1, .slice p1 n1 c1, .slice q1 m1 d1] 27)
    have h1 := (World.grownBy_alloc (w.alloc (.cells #[.bool g1, .slice p1 n1 c1, .slice q1 m1 d1] 27)) (.cells #[.bool false, .slice none 0 0] 25) none).block _ (lt_of_block h0) (by simp)
    have h2 := h1.trans h0
    simpa using h2
  obtain ⟨x0, x1, x2, _, _, _⟩ := ratbox_facts bx0
  clear bx0
  have bx1 : ((w.alloc (.cells #[.bool g1, .slice p1 n1 c1, .slice q1 m1 d1] 27)).alloc (.cells #[.bool false, .slice none 0 0] 25)).heap[w.heap.size + 1]? = some (.cells #[.bool false, .slice none 0 0] 25 (0, 0)) := by
    have := heap_alloc_new (w.alloc (.cells #[.bool g1, .slice p1 n1 c1, .slice q1 m1 d1] 27)) (.cells #[.bool false, .slice none 0 0] 25)
    simpa using this
  replace hV := hV.keep hW
  go_enter Tryz.func36, Tryz.ntmps36
  go_wp2_with fail
  generalize ((w.alloc (.cells #[.bool g1, .slice p1 n1 c1, .slice q1 m1 d1] 27)).alloc (.cells #[.bool false, .slice none 0 0] 25)) = w0 at *
  have hg := grown_drew w0 none
  replace hV := hV.keep hg; replace x0 := hg.cell x0 (by simp); replace x1 := hg.cell x1 (by simp); replace x2 := hg.cell x2 (by simp)
  replace bx1 := (hg.block _ (lt_of_block bx1) (by simp)).trans bx1; replace hW := grown_trans hW hg
  clear hg
  go_region_held3 (fun w' => w'.cell? ⟨w.heap.size, 0, none⟩ = some (.bool g1) ∧ w'.cell? ⟨w.heap.size, 1, none⟩ = some (.slice p1 n1 c1) ∧ w'.cell? ⟨w.heap.size, 2, none⟩ = some (.slice q1 m1 d1)) ((try go_split_ands) <;> (repeat' apply And.intro) <;> (repeat (first | (with_reducible assumption) | (with_reducible refine (grown_setCell _ _ _).cell ?_ (by first | (simp; omega) | simp)) | (with_reducible refine (World.grownBy_alloc _ _ none).cell ?_ (by simp)) | (with_reducible refine (grown_drew _ none).cell ?_ (by simp)))))
    (first
      | (go_at_call 76; (with_reducible refine (power_v b hb).mono ?_); rintro ee v1 ⟨g3, p3, n3, c3, rfl, hP, hn3, hg⟩; replace hV := hV.keep hg; replace x0 := hg.cell x0 (by simp); replace x1 := hg.cell x1 (by simp); replace x2 := hg.cell x2 (by simp); replace bx1 := (hg.block _ (lt_of_block bx1) (by simp)).trans bx1; replace hW := grown_trans hW hg; clear hg)
      | (go_at_call 62; (with_reducible refine (intMul_any hV.num.z hP.z (by omega) (by omega)).mono ?_); rintro ee v2 ⟨g4, p4, n4, c4, rfl, hX, hn4, hg⟩; replace hV := hV.keep hg; replace hP := hP.keep hg; replace x0 := hg.cell x0 (by simp); replace x1 := hg.cell x1 (by simp); replace x2 := hg.cell x2 (by simp); replace bx1 := (hg.block _ (lt_of_block bx1) (by simp)).trans bx1; replace hW := grown_trans hW hg; clear hg)
      | (go_at_call 77; (with_reducible refine (ratFloor_v (S + 40) (IsQ.scaled HV.out hX hV) (by omega) (by omega) (by omega)).mono ?_); rintro ee v3 ⟨g5, p5, n5, c5, rfl, hZ, hn5, hg⟩; replace hV := hV.keep hg; replace hP := hP.keep hg; replace hX := hX.keep hg; replace x0 := hg.cell x0 (by simp); replace x1 := hg.cell x1 (by simp); replace x2 := hg.cell x2 (by simp); replace bx1 := (hg.block _ (lt_of_block bx1) (by simp)).trans bx1; replace hW := grown_trans hW hg; clear hg; have ff := intbox_facts bx1; obtain ⟨l0, l1, f0, f1⟩ := ff))
  go_wp2_with fail
  exact bodyPost_ret (v := .agg #[.bool g5, .slice p5 n5 c5]) (by simp [results, Tryz.results36, go_sem, l0, l1, f0, f1]) rfl
    (IPost.close2 bx1 (by omega) hW hZ (by omega))

set_option maxRecDepth 20000 in
set_option maxHeartbeats 4000000 in
theorem scaledCeiling_v (S : Nat) {w : World} (T : Tb w) {g1 : Bool} {p1 q1 : Option Addr} {n1 c1 m1 d1 : Nat} {v : Rat} (hV : IsV w g1 p1 n1 c1 q1 m1 d1 v) (b : Nat) (hb : b ≤ 400) (hn1 : n1 ≤ S) (hm1 : m1 ≤ S) (hS : S ≤ 1900) :
    Calls Tryz.prog 37 #[.agg #[.bool g1, .slice p1 n1 c1, .slice q1 m1 d1], .int .i64 b] w (IPost w (-(-v * ((2 ^ b : Nat) : Rat)).floor) (4 * S + 70)) := by
  have HT := hid T
  clear T
  have hW := (grown_trans (World.grownBy_alloc w (.cells #[.bool g1, .slice p1 n1 c1, .slice q1 m1 d1] 27) none) (World.grownBy_alloc _ (.cells #[.bool false, .slice none 0 0] 25) none))
  have bx0 : ((w.alloc (.cells #[.bool g1, .slice p1 n1 c1, .slice q1 m1 d1] 27)).alloc (.cells #[.bool false, .slice none 0 0] 25)).heap[w.heap.size]? = some (.cells #[.bool g1, .slice p1 n1 c1, .slice q1 m1 d1] 27 (0, 0)) := by
    have h0 := heap_alloc_new w (.cells #[.bool g1, .slice p1 n1 c1, .slice q1 m1 d1] 27)
    have h1 := (World.grownBy_alloc (w.alloc (.cells #[.bool g1, .slice p1 n1 c1, .slice q1 m1 d1] 27)) (.cells #[.bool false, .slice none 0 0] 25) none).block _ (lt_of_block h0) (by simp)
    have h2 := h1.trans h0
    simpa using h2
  obtain ⟨x0, x1, x2, _, _, _⟩ := ratbox_facts bx0
  clear bx0
  have bx1 : ((w.alloc (.cells #[.bool g1, .slice p1 n1 c1, .slice q1 m1 d1] 27)).alloc (.cells #[.bool false, .slice none 0 0] 25)).heap[w.heap.size + 1]? = some (.cells #[.bool false, .slice none 0 0] 25 (0, 0)) := by
    have := heap_alloc_new (w.alloc (.cells #[.bool g1, .slice p1 n1 c1, .slice q1 m1 d1] 27)) (.cells #[.bool false, .slice none 0 0] 25)
    simpa using this
  replace hV := hV.keep hW
  go_enter Tryz.func37, Tryz.ntmps37
  go_wp2_with fail
  generalize ((w.alloc (.cells #[.bool g1, .slice p1 n1 c1, .slice q1 m1 d1] 27)).alloc (.cells #[.bool false, .slice none 0 0] 25)) = w0 at *
  refine (ratNeg_v S (HT.out.keep hW) hV.q hn1 hm1 (by omega)).mono ?_
  rintro ee v1 ⟨g3, p3, n3, c3, q3, m3, d3, rfl, hX, hn3, hm3, hg⟩
  replace hV := hV.keep hg; replace x0 := hg.cell x0 (by simp); replace x1 := hg.cell x1 (by simp); replace x2 := hg.cell x2 (by simp)
  replace bx1 := (hg.block _ (lt_of_block bx1) (by simp)).trans bx1; replace hW := grown_trans hW hg
  clear hg
  go_wp2_with fail
  refine (scaledFloor_v (4 * S + 20) hX b hb hn3 hm3 (by omega)).mono ?_
  rintro ee v2 ⟨g4, p4, n4, c4, rfl, hY, hn4, hg⟩
  replace hV := hV.keep hg; replace hX := hX.keep hg; replace x0 := hg.cell x0 (by simp); replace x1 := hg.cell x1 (by simp)
  replace x2 := hg.cell x2 (by simp); replace bx1 := (hg.block _ (lt_of_block bx1) (by simp)).trans bx1; replace hW := grown_trans hW hg
  clear hg
  go_wp2_with fail
  refine (intNeg_any hY.z (by omega)).mono ?_
  rintro ee v3 ⟨g5, p5, n5, c5, rfl, hZ, hn5, hg⟩
  replace hV := hV.keep hg; replace hX := hX.keep hg; replace hY := hY.keep hg; replace x0 := hg.cell x0 (by simp)
  replace x1 := hg.cell x1 (by simp); replace x2 := hg.cell x2 (by simp); replace bx1 := (hg.block _ (lt_of_block bx1) (by simp)).trans bx1; replace hW := grown_trans hW hg
  clear hg
  obtain ⟨l0, l1, f0, f1⟩ := intbox_facts bx1
  go_wp2_with fail
  exact bodyPost_ret (v := .agg #[.bool g5, .slice p5 n5 c5]) (by simp [results, Tryz.results37, go_sem, l0, l1, f0, f1]) rfl
    (IPost.close2 bx1 (by omega) hW hZ (by omega))

set_option maxRecDepth 20000 in
set_option maxHeartbeats 4000000 in
theorem onGrid_v (S : Nat) {w : World} (T : Tb w) {g1 g2 : Bool} {p1 p2 : Option Addr} {n1 c1 n2 c2 : Nat} {X Y : Int} (hA : IsZ w g1 p1 n1 c1 X) (hB : IsZ w g2 p2 n2 c2 Y) (b : Nat) (hb : b ≤ 400) (hn1 : n1 ≤ S) (hn2 : n2 ≤ S) (hS : S ≤ 40000) :
    Calls Tryz.prog 35 #[.agg #[.bool g1, .slice p1 n1 c1], .agg #[.bool g2, .slice p2 n2 c2], .int .i64 b] w (WPost w ((X : Rat) / (((2 ^ b : Nat) : Int) : Rat)) ((Y : Rat) / (((2 ^ b : Nat) : Int) : Rat)) (S + 40)) := by
  have HT := hid T
  have HN := hid (show ((2 ^ b : Nat) : Int) ≠ 0 by have := Nat.pow_pos (n := b) (show 0 < 2 by omega); omega)
  clear T
  have hW := (grown_trans (grown_trans (World.grownBy_alloc w (.cells #[.bool g1, .slice p1 n1 c1] 25) none) (World.grownBy_alloc _ (.cells #[.bool g2, .slice p2 n2 c2] 25) none)) (World.grownBy_alloc _ (.cells #[.bool false, .slice none 0 0, .slice none 0 0, .bool false, .slice none 0 0, .slice none 0 0] 29) none))
  have bx0 : (((w.alloc (.cells #[.bool g1, .slice p1 n1 c1] 25)).alloc (.cells #[.bool g2, .slice p2 n2 c2] 25)).alloc (.cells #[.bool false, .slice none 0 0, .slice none 0 0, .bool false, .slice none 0 0, .slice none 0 0] 29)).heap[w.heap.size]? = some (.cells #[.bool g1, .slice p1 n1 c1] 25 (0, 0)) := by
    have h0 := heap_alloc_new w (.cells #[.bool g1, .slice p1 n1 c1] 25)
    have h1 := (grown_trans (World.grownBy_alloc (w.alloc (.cells #[.bool g1, .slice p1 n1 c1] 25)) (.cells #[.bool g2, .slice p2 n2 c2] 25) none) (World.grownBy_alloc _ (.cells #[.bool false, .slice none 0 0, .slice none 0 0, .bool false, .slice none 0 0, .slice none 0 0] 29) none)).block _ (lt_of_block h0) (by simp)
    have h2 := h1.trans h0
    simpa using h2
  obtain ⟨x0, x1, _, _⟩ := intbox_facts bx0
  clear bx0
  have bx1 : (((w.alloc (.cells #[.bool g1, .slice p1 n1 c1] 25)).alloc (.cells #[.bool g2, .slice p2 n2 c2] 25)).alloc (.cells #[.bool false, .slice none 0 0, .slice none 0 0, .bool false, .slice none 0 0, .slice none 0 0] 29)).heap[w.heap.size + 1]? = some (.cells #[.bool g2, .slice p2 n2 c2] 25 (0, 0)) := by
    have h0 := heap_alloc_new (w.alloc (.cells #[.bool g1, .slice p1 n1 c1] 25)) (.cells #[.bool g2, .slice p2 n2 c2] 25)
    have h1 := (World.grownBy_alloc ((w.alloc (.cells #[.bool g1, .slice p1 n1 c1] 25)).alloc (.cells #[.bool g2, .slice p2 n2 c2] 25)) (.cells #[.bool false, .slice none 0 0, .slice none 0 0, .bool false, .slice none 0 0, .slice none 0 0] 29) none).block _ (lt_of_block h0) (by simp)
    have h2 := h1.trans h0
    simpa using h2
  obtain ⟨y0, y1, _, _⟩ := intbox_facts bx1
  clear bx1
  have bx2 : (((w.alloc (.cells #[.bool g1, .slice p1 n1 c1] 25)).alloc (.cells #[.bool g2, .slice p2 n2 c2] 25)).alloc (.cells #[.bool false, .slice none 0 0, .slice none 0 0, .bool false, .slice none 0 0, .slice none 0 0] 29)).heap[w.heap.size + 1 + 1]? = some (.cells #[.bool false, .slice none 0 0, .slice none 0 0, .bool false, .slice none 0 0, .slice none 0 0] 29 (0, 0)) := by
    have := heap_alloc_new ((w.alloc (.cells #[.bool g1, .slice p1 n1 c1] 25)).alloc (.cells #[.bool g2, .slice p2 n2 c2] 25)) (.cells #[.bool false, .slice none 0 0, .slice none 0 0, .bool false, .slice none 0 0, .slice none 0 0] 29)
    simpa using this
  replace hA := hA.keep hW; replace hB := hB.keep hW
  go_enter Tryz.func35, Tryz.ntmps35
  go_wp2_with fail
  generalize (((w.alloc (.cells #[.bool g1, .slice p1 n1 c1] 25)).alloc (.cells #[.bool g2, .slice p2 n2 c2] 25)).alloc (.cells #[.bool false, .slice none 0 0, .slice none 0 0, .bool false, .slice none 0 0, .slice none 0 0] 29)) = w0 at *
  refine (power_v b hb).mono ?_
  rintro ee v1 ⟨g3, p3, n3, c3, rfl, hP, hn3, hg⟩
  replace hA := hA.keep hg; replace hB := hB.keep hg; replace x0 := hg.cell x0 (by simp); replace x1 := hg.cell x1 (by simp)
  replace y0 := hg.cell y0 (by simp); replace y1 := hg.cell y1 (by simp); replace bx2 := (hg.block _ (lt_of_block bx2) (by simp)).trans bx2; replace hW := grown_trans hW hg
  clear hg
  have hg := World.grownBy_alloc v1 (.cells #[.bool g3, .slice p3 n3 c3] 25) none
  have hb := heap_alloc_new v1 (.cells #[.bool g3, .slice p3 n3 c3] 25)
  replace hA := hA.keep hg; replace hB := hB.keep hg; replace hP := hP.keep hg; replace x0 := hg.cell x0 (by simp)
  replace x1 := hg.cell x1 (by simp); replace y0 := hg.cell y0 (by simp); replace y1 := hg.cell y1 (by simp); replace bx2 := (hg.block _ (lt_of_block bx2) (by simp)).trans bx2
  replace hW := grown_trans hW hg
  obtain ⟨z0, z1, _, _⟩ := intbox_facts hb
  clear hg hb
  go_wp2_with fail
  generalize v1.alloc (.cells #[.bool g3, .slice p3 n3 c3] 25) = u1 at *
  generalize v1.heap.size = K1 at *
  refine (make_v (S + 40) (HT.out.keep hW) hA hP.z HN.out rfl (by omega) (by omega) (by omega)).mono ?_
  rintro ee v2 ⟨g4, p4, n4, c4, q4, m4, d4, rfl, hX, hn4, hm4, hg⟩
  replace hA := hA.keep hg; replace hB := hB.keep hg; replace hP := hP.keep hg; replace x0 := hg.cell x0 (by simp)
  replace x1 := hg.cell x1 (by simp); replace y0 := hg.cell y0 (by simp); replace y1 := hg.cell y1 (by simp); replace z0 := hg.cell z0 (by simp)
  replace z1 := hg.cell z1 (by simp); replace bx2 := (hg.block _ (lt_of_block bx2) (by simp)).trans bx2; replace hW := grown_trans hW hg
  clear hg
  have hg := World.grownBy_alloc v2 (.cells #[.bool g4, .slice p4 n4 c4, .slice q4 m4 d4] 27) none
  have hb := heap_alloc_new v2 (.cells #[.bool g4, .slice p4 n4 c4, .slice q4 m4 d4] 27)
  replace hA := hA.keep hg; replace hB := hB.keep hg; replace hP := hP.keep hg; replace hX := hX.keep hg
  replace x0 := hg.cell x0 (by simp); replace x1 := hg.cell x1 (by simp); replace y0 := hg.cell y0 (by simp); replace y1 := hg.cell y1 (by simp)
  replace z0 := hg.cell z0 (by simp); replace z1 := hg.cell z1 (by simp); replace bx2 := (hg.block _ (lt_of_block bx2) (by simp)).trans bx2; replace hW := grown_trans hW hg
  obtain ⟨t0, t1, t2, _, _, _⟩ := ratbox_facts hb
  clear hg hb
  go_wp2_with fail
  generalize v2.alloc (.cells #[.bool g4, .slice p4 n4 c4, .slice q4 m4 d4] 27) = u2 at *
  generalize v2.heap.size = K2 at *
  refine (make_v (S + 40) (HT.out.keep hW) hB hP.z HN.out rfl (by omega) (by omega) (by omega)).mono ?_
  rintro ee v3 ⟨g5, p5, n5, c5, q5, m5, d5, rfl, hY, hn5, hm5, hg⟩
  replace hA := hA.keep hg; replace hB := hB.keep hg; replace hP := hP.keep hg; replace hX := hX.keep hg
  replace x0 := hg.cell x0 (by simp); replace x1 := hg.cell x1 (by simp); replace y0 := hg.cell y0 (by simp); replace y1 := hg.cell y1 (by simp)
  replace z0 := hg.cell z0 (by simp); replace z1 := hg.cell z1 (by simp); replace t0 := hg.cell t0 (by simp); replace t1 := hg.cell t1 (by simp)
  replace t2 := hg.cell t2 (by simp); replace bx2 := (hg.block _ (lt_of_block bx2) (by simp)).trans bx2; replace hW := grown_trans hW hg
  clear hg
  have hg := World.grownBy_alloc v3 (.cells #[.bool g5, .slice p5 n5 c5, .slice q5 m5 d5] 27) none
  have hb := heap_alloc_new v3 (.cells #[.bool g5, .slice p5 n5 c5, .slice q5 m5 d5] 27)
  replace hA := hA.keep hg; replace hB := hB.keep hg; replace hP := hP.keep hg; replace hX := hX.keep hg
  replace hY := hY.keep hg; replace x0 := hg.cell x0 (by simp); replace x1 := hg.cell x1 (by simp); replace y0 := hg.cell y0 (by simp)
  replace y1 := hg.cell y1 (by simp); replace z0 := hg.cell z0 (by simp); replace z1 := hg.cell z1 (by simp); replace t0 := hg.cell t0 (by simp)
  replace t1 := hg.cell t1 (by simp); replace t2 := hg.cell t2 (by simp); replace bx2 := (hg.block _ (lt_of_block bx2) (by simp)).trans bx2; replace hW := grown_trans hW hg
  obtain ⟨u0, u1, u2, _, _, _⟩ := ratbox_facts hb
  clear hg hb
  have ff := ivbox_facts bx2; obtain ⟨⟨l0, l1, l2, l3, l4, l5⟩, f0, f1, f2, f3, f4, f5⟩ := ff
  go_wp2_with fail
  generalize v3.alloc (.cells #[.bool g5, .slice p5 n5 c5, .slice q5 m5 d5] 27) = u3 at *
  generalize v3.heap.size = K3 at *
  exact bodyPost_ret (v := .agg #[.bool g4, .slice p4 n4 c4, .slice q4 m4 d4, .bool g5, .slice p5 n5 c5, .slice q5 m5 d5]) (by simp [results, Tryz.results35, go_sem, l0, l1, l2, l3, l4, l5, f0, f1, f2, f3, f4, f5]) rfl
    (WPost.close bx2 (by omega) hW hX hY ⟨hn4, hm4⟩ ⟨hn5, hm5⟩)

theorem three_sz {a b c : RV} {B : Nat} (h1 : a.n ≤ B ∧ a.m ≤ B) (h2 : b.n ≤ B ∧ b.m ≤ B) (h3 : c.n ≤ B ∧ c.m ≤ B) : ∀ r ∈ [a, b, c], r.n ≤ B ∧ r.m ≤ B := fun r hr => by
  simp at hr
  rcases hr with rfl | rfl | rfl
  · exact h1
  · exact h2
  · exact h3
set_option maxRecDepth 20000 in
set_option maxHeartbeats 8000000 in
theorem ivMul_v (S : Nat) {w : World} (T : Tb w) {g1 g2 g3 g4 : Bool} {p1 q1 p2 q2 p3 q3 p4 q4 : Option Addr} {n1 c1 m1 d1 n2 c2 m2 d2 n3 c3 m3 d3 n4 c4 m4 d4 : Nat} {A B X Y : Rat} (hA : IsV w g1 p1 n1 c1 q1 m1 d1 A) (hB : IsV w g2 p2 n2 c2 q2 m2 d2 B) (hX : IsV w g3 p3 n3 c3 q3 m3 d3 X) (hY : IsV w g4 p4 n4 c4 q4 m4 d4 Y) (hn1 : n1 ≤ S) (hm1 : m1 ≤ S) (hn2 : n2 ≤ S) (hm2 : m2 ≤ S) (hn3 : n3 ≤ S) (hm3 : m3 ≤ S) (hn4 : n4 ≤ S) (hm4 : m4 ≤ S) (hS : S ≤ 8000) :
    Calls Tryz.prog 19 #[.agg #[.bool g1, .slice p1 n1 c1, .slice q1 m1 d1, .bool g2, .slice p2 n2 c2, .slice q2 m2 d2], .agg #[.bool g3, .slice p3 n3 c3, .slice q3 m3 d3, .bool g4, .slice p4 n4 c4, .slice q4 m4 d4]] w (WPost w (minR (A * X) [A * Y, B * X, B * Y]) (maxR (A * X) [A * Y, B * X, B * Y]) (4 * S + 20)) := by
  have HT := hid T
  clear T
  have hW := (grown_trans (grown_trans (World.grownBy_alloc w (.cells #[.bool g1, .slice p1 n1 c1, .slice q1 m1 d1, .bool g2, .slice p2 n2 c2, .slice q2 m2 d2] 29) none) (World.grownBy_alloc _ (.cells #[.bool g3, .slice p3 n3 c3, .slice q3 m3 d3, .bool g4, .slice p4 n4 c4, .slice q4 m4 d4] 29) none)) (World.grownBy_alloc _ (.cells #[.bool false, .slice none 0 0, .slice none 0 0, .bool false, .slice none 0 0, .slice none 0 0] 29) none))
  have bx0 : (((w.alloc (.cells #[.bool g1, .slice p1 n1 c1, .slice q1 m1 d1, .bool g2, .slice p2 n2 c2, .slice q2 m2 d2] 29)).alloc (.cells #[.bool g3, .slice p3 n3 c3, .slice q3 m3 d3, .bool g4, .slice p4 n4 c4, .slice q4 m4 d4] 29)).alloc (.cells #[.bool false, .slice none 0 0, .slice none 0 0, .bool false, .slice none 0 0, .slice none 0 0] 29)).heap[w.heap.size]? = some (.cells #[.bool g1, .slice p1 n1 c1, .slice q1 m1 d1, .bool g2, .slice p2 n2 c2, .slice q2 m2 d2] 29 (0, 0)) := by
    have h0 := heap_alloc_new w (.cells #[.bool g1, .slice p1 n1 c1, .slice q1 m1 d1, .bool g2, .slice p2 n2 c2, .slice q2 m2 d2] 29)
    have h1 := (grown_trans (World.grownBy_alloc (w.alloc (.cells #[.bool g1, .slice p1 n1 c1, .slice q1 m1 d1, .bool g2, .slice p2 n2 c2, .slice q2 m2 d2] 29)) (.cells #[.bool g3, .slice p3 n3 c3, .slice q3 m3 d3, .bool g4, .slice p4 n4 c4, .slice q4 m4 d4] 29) none) (World.grownBy_alloc _ (.cells #[.bool false, .slice none 0 0, .slice none 0 0, .bool false, .slice none 0 0, .slice none 0 0] 29) none)).block _ (lt_of_block h0) (by simp)
    have h2 := h1.trans h0
    simpa using h2
  have bx1 : (((w.alloc (.cells #[.bool g1, .slice p1 n1 c1, .slice q1 m1 d1, .bool g2, .slice p2 n2 c2, .slice q2 m2 d2] 29)).alloc (.cells #[.bool g3, .slice p3 n3 c3, .slice q3 m3 d3, .bool g4, .slice p4 n4 c4, .slice q4 m4 d4] 29)).alloc (.cells #[.bool false, .slice none 0 0, .slice none 0 0, .bool false, .slice none 0 0, .slice none 0 0] 29)).heap[w.heap.size + 1]? = some (.cells #[.bool g3, .slice p3 n3 c3, .slice q3 m3 d3, .bool g4, .slice p4 n4 c4, .slice q4 m4 d4] 29 (0, 0)) := by
    have h0 := heap_alloc_new (w.alloc (.cells #[.bool g1, .slice p1 n1 c1, .slice q1 m1 d1, .bool g2, .slice p2 n2 c2, .slice q2 m2 d2] 29)) (.cells #[.bool g3, .slice p3 n3 c3, .slice q3 m3 d3, .bool g4, .slice p4 n4 c4, .slice q4 m4 d4] 29)
    have h1 := (World.grownBy_alloc ((w.alloc (.cells #[.bool g1, .slice p1 n1 c1, .slice q1 m1 d1, .bool g2, .slice p2 n2 c2, .slice q2 m2 d2] 29)).alloc (.cells #[.bool g3, .slice p3 n3 c3, .slice q3 m3 d3, .bool g4, .slice p4 n4 c4, .slice q4 m4 d4] 29)) (.cells #[.bool false, .slice none 0 0, .slice none 0 0, .bool false, .slice none 0 0, .slice none 0 0] 29) none).block _ (lt_of_block h0) (by simp)
    have h2 := h1.trans h0
    simpa using h2
  have bx2 : (((w.alloc (.cells #[.bool g1, .slice p1 n1 c1, .slice q1 m1 d1, .bool g2, .slice p2 n2 c2, .slice q2 m2 d2] 29)).alloc (.cells #[.bool g3, .slice p3 n3 c3, .slice q3 m3 d3, .bool g4, .slice p4 n4 c4, .slice q4 m4 d4] 29)).alloc (.cells #[.bool false, .slice none 0 0, .slice none 0 0, .bool false, .slice none 0 0, .slice none 0 0] 29)).heap[w.heap.size + 1 + 1]? = some (.cells #[.bool false, .slice none 0 0, .slice none 0 0, .bool false, .slice none 0 0, .slice none 0 0] 29 (0, 0)) := by
    have := heap_alloc_new ((w.alloc (.cells #[.bool g1, .slice p1 n1 c1, .slice q1 m1 d1, .bool g2, .slice p2 n2 c2, .slice q2 m2 d2] 29)).alloc (.cells #[.bool g3, .slice p3 n3 c3, .slice q3 m3 d3, .bool g4, .slice p4 n4 c4, .slice q4 m4 d4] 29)) (.cells #[.bool false, .slice none 0 0, .slice none 0 0, .bool false, .slice none 0 0, .slice none 0 0] 29)
    simpa using this
  replace hA := hA.keep hW; replace hB := hB.keep hW; replace hX := hX.keep hW; replace hY := hY.keep hW
  obtain ⟨⟨x0, x1, x2, x3, x4, x5⟩, _⟩ := ivbox_facts bx0
  obtain ⟨⟨y0, y1, y2, y3, y4, y5⟩, _⟩ := ivbox_facts bx1
  clear bx0 bx1
  go_enter Tryz.func19, Tryz.ntmps19
  go_wp2_with fail
  generalize (((w.alloc (.cells #[.bool g1, .slice p1 n1 c1, .slice q1 m1 d1, .bool g2, .slice p2 n2 c2, .slice q2 m2 d2] 29)).alloc (.cells #[.bool g3, .slice p3 n3 c3, .slice q3 m3 d3, .bool g4, .slice p4 n4 c4, .slice q4 m4 d4] 29)).alloc (.cells #[.bool false, .slice none 0 0, .slice none 0 0, .bool false, .slice none 0 0, .slice none 0 0] 29)) = w0 at *
  have hg := grown_drew w0 none
  replace hA := hA.keep hg; replace hB := hB.keep hg; replace hX := hX.keep hg; replace hY := hY.keep hg
  replace x0 := hg.cell x0 (by simp); replace x1 := hg.cell x1 (by simp); replace x2 := hg.cell x2 (by simp); replace x3 := hg.cell x3 (by simp)
  replace x4 := hg.cell x4 (by simp); replace x5 := hg.cell x5 (by simp); replace y0 := hg.cell y0 (by simp); replace y1 := hg.cell y1 (by simp)
  replace y2 := hg.cell y2 (by simp); replace y3 := hg.cell y3 (by simp); replace y4 := hg.cell y4 (by simp); replace y5 := hg.cell y5 (by simp)
  replace bx2 := (hg.block _ (lt_of_block bx2) (by simp)).trans bx2; replace hW := grown_trans hW hg
  clear hg
  go_region_held3 (fun w' => w'.cell? ⟨w.heap.size, 0, none⟩ = some (.bool g1) ∧ w'.cell? ⟨w.heap.size, 1, none⟩ = some (.slice p1 n1 c1) ∧ w'.cell? ⟨w.heap.size, 2, none⟩ = some (.slice q1 m1 d1) ∧ w'.cell? ⟨w.heap.size, 3, none⟩ = some (.bool g2) ∧ w'.cell? ⟨w.heap.size, 4, none⟩ = some (.slice p2 n2 c2) ∧ w'.cell? ⟨w.heap.size, 5, none⟩ = some (.slice q2 m2 d2) ∧ w'.cell? ⟨w.heap.size + 1, 0, none⟩ = some (.bool g3) ∧ w'.cell? ⟨w.heap.size + 1, 1, none⟩ = some (.slice p3 n3 c3) ∧ w'.cell? ⟨w.heap.size + 1, 2, none⟩ = some (.slice q3 m3 d3) ∧ w'.cell? ⟨w.heap.size + 1, 3, none⟩ = some (.bool g4) ∧ w'.cell? ⟨w.heap.size + 1, 4, none⟩ = some (.slice p4 n4 c4) ∧ w'.cell? ⟨w.heap.size + 1, 5, none⟩ = some (.slice q4 m4 d4)) ((try go_split_ands) <;> (repeat' apply And.intro) <;> (repeat (first | (with_reducible assumption) | (with_reducible refine (grown_setCell _ _ _).cell ?_ (by first | (simp; omega) | simp)) | (with_reducible refine (World.grownBy_alloc _ _ none).cell ?_ (by simp)) | (with_reducible refine (grown_drew _ none).cell ?_ (by simp)))))
    (first
      | (go_at_call 20; (with_reducible refine (ratMul_v S (HT.out.keep hW) hA.q hX.q (by omega) (by omega) (by omega) (by omega) (by omega)).mono ?_); rintro ee v5 ⟨g5, p5, n5, c5, q5, m5, d5, rfl, hM, hn5, hm5, hg⟩; replace hA := hA.keep hg; replace hB := hB.keep hg; replace hX := hX.keep hg; replace hY := hY.keep hg; replace x0 := hg.cell x0 (by simp); replace x1 := hg.cell x1 (by simp); replace x2 := hg.cell x2 (by simp); replace x3 := hg.cell x3 (by simp); replace x4 := hg.cell x4 (by simp); replace x5 := hg.cell x5 (by simp); replace y0 := hg.cell y0 (by simp); replace y1 := hg.cell y1 (by simp); replace y2 := hg.cell y2 (by simp); replace y3 := hg.cell y3 (by simp); replace y4 := hg.cell y4 (by simp); replace y5 := hg.cell y5 (by simp); replace bx2 := (hg.block _ (lt_of_block bx2) (by simp)).trans bx2; replace hW := grown_trans hW hg; clear hg)
      | (go_at_call 20; (with_reducible refine (ratMul_v S (HT.out.keep hW) hA.q hY.q (by omega) (by omega) (by omega) (by omega) (by omega)).mono ?_); rintro ee v6 ⟨g6, p6, n6, c6, q6, m6, d6, rfl, hN, hn6, hm6, hg⟩; replace hA := hA.keep hg; replace hB := hB.keep hg; replace hX := hX.keep hg; replace hY := hY.keep hg; replace hM := hM.keep hg; replace x0 := hg.cell x0 (by simp); replace x1 := hg.cell x1 (by simp); replace x2 := hg.cell x2 (by simp); replace x3 := hg.cell x3 (by simp); replace x4 := hg.cell x4 (by simp); replace x5 := hg.cell x5 (by simp); replace y0 := hg.cell y0 (by simp); replace y1 := hg.cell y1 (by simp); replace y2 := hg.cell y2 (by simp); replace y3 := hg.cell y3 (by simp); replace y4 := hg.cell y4 (by simp); replace y5 := hg.cell y5 (by simp); replace bx2 := (hg.block _ (lt_of_block bx2) (by simp)).trans bx2; replace hW := grown_trans hW hg; clear hg)
      | (go_at_call 20; (with_reducible refine (ratMul_v S (HT.out.keep hW) hB.q hX.q (by omega) (by omega) (by omega) (by omega) (by omega)).mono ?_); rintro ee v7 ⟨g7, p7, n7, c7, q7, m7, d7, rfl, hO, hn7, hm7, hg⟩; replace hA := hA.keep hg; replace hB := hB.keep hg; replace hX := hX.keep hg; replace hY := hY.keep hg; replace hM := hM.keep hg; replace hN := hN.keep hg; replace x0 := hg.cell x0 (by simp); replace x1 := hg.cell x1 (by simp); replace x2 := hg.cell x2 (by simp); replace x3 := hg.cell x3 (by simp); replace x4 := hg.cell x4 (by simp); replace x5 := hg.cell x5 (by simp); replace y0 := hg.cell y0 (by simp); replace y1 := hg.cell y1 (by simp); replace y2 := hg.cell y2 (by simp); replace y3 := hg.cell y3 (by simp); replace y4 := hg.cell y4 (by simp); replace y5 := hg.cell y5 (by simp); replace bx2 := (hg.block _ (lt_of_block bx2) (by simp)).trans bx2; replace hW := grown_trans hW hg; clear hg)
      | (go_at_call 20; (with_reducible refine (ratMul_v S (HT.out.keep hW) hB.q hY.q (by omega) (by omega) (by omega) (by omega) (by omega)).mono ?_); rintro ee v8 ⟨g8, p8, n8, c8, q8, m8, d8, rfl, hQ, hn8, hm8, hg⟩; replace hA := hA.keep hg; replace hB := hB.keep hg; replace hX := hX.keep hg; replace hY := hY.keep hg; replace hM := hM.keep hg; replace hN := hN.keep hg; replace hO := hO.keep hg; replace x0 := hg.cell x0 (by simp); replace x1 := hg.cell x1 (by simp); replace x2 := hg.cell x2 (by simp); replace x3 := hg.cell x3 (by simp); replace x4 := hg.cell x4 (by simp); replace x5 := hg.cell x5 (by simp); replace y0 := hg.cell y0 (by simp); replace y1 := hg.cell y1 (by simp); replace y2 := hg.cell y2 (by simp); replace y3 := hg.cell y3 (by simp); replace y4 := hg.cell y4 (by simp); replace y5 := hg.cell y5 (by simp); replace bx2 := (hg.block _ (lt_of_block bx2) (by simp)).trans bx2; replace hW := grown_trans hW hg; clear hg; have hga := World.grownBy_alloc v8 (.cells #[.bool g6, .slice p6 n6 c6, .slice q6 m6 d6, .bool g7, .slice p7 n7 c7, .slice q7 m7 d7, .bool g8, .slice p8 n8 c8, .slice q8 m8 d8] 27) none; have ba := heap_alloc_new v8 (.cells #[.bool g6, .slice p6 n6 c6, .slice q6 m6 d6, .bool g7, .slice p7 n7 c7, .slice q7 m7 d7, .bool g8, .slice p8 n8 c8, .slice q8 m8 d8] 27); have hl : RVs (v8.alloc (.cells #[.bool g6, .slice p6 n6 c6, .slice q6 m6 d6, .bool g7, .slice p7 n7 c7, .slice q7 m7 d7, .bool g8, .slice p8 n8 c8, .slice q8 m8 d8] 27)) v8.heap.size [⟨g6, p6, n6, c6, q6, m6, d6, A * Y⟩, ⟨g7, p7, n7, c7, q7, m7, d7, B * X⟩, ⟨g8, p8, n8, c8, q8, m8, d8, B * Y⟩] := rvs3 ba (IsV.keep hN hga) (IsV.keep hO hga) (IsV.keep hQ hga); have hMa := hM.keep hga; have hWa := grown_trans hW hga; have bxa := (hga.block _ (lt_of_block bx2) (by simp)).trans bx2; have hGa := lt_of_block ba; have HSZ := hid (show ∀ r ∈ ([⟨g6, p6, n6, c6, q6, m6, d6, A * Y⟩, ⟨g7, p7, n7, c7, q7, m7, d7, B * X⟩, ⟨g8, p8, n8, c8, q8, m8, d8, B * Y⟩] : List RV), r.n ≤ 4 * S + 20 ∧ r.m ≤ 4 * S + 20 from three_sz ⟨hn6, hm6⟩ ⟨hn7, hm7⟩ ⟨hn8, hm8⟩); clear hga ba)
      | (go_at_call 59; (with_reducible refine (hull_v (4 * S + 20) [⟨g6, p6, n6, c6, q6, m6, d6, A * Y⟩, ⟨g7, p7, n7, c7, q7, m7, d7, B * X⟩, ⟨g8, p8, n8, c8, q8, m8, d8, B * Y⟩] 3 rfl hMa hl hGa HSZ.out hn5 hm5 (by omega) (by omega)).mono ?_); rintro ee v9 ⟨g9, g10, p9, q9, p10, q10, n9, c9, m9, d9, n10, c10, m10, d10, rfl, hR, hS2, b1, b2, hg⟩; have bxb := (hg.block _ (lt_of_block bxa) (by simp)).trans bxa; have hWb := grown_trans hWa hg; replace x0 := hg.cell ((World.grownBy_alloc v8 (.cells #[.bool g6, .slice p6 n6 c6, .slice q6 m6 d6, .bool g7, .slice p7 n7 c7, .slice q7 m7 d7, .bool g8, .slice p8 n8 c8, .slice q8 m8 d8] 27) none).cell x0 (by simp)) (by simp); replace x1 := hg.cell ((World.grownBy_alloc v8 (.cells #[.bool g6, .slice p6 n6 c6, .slice q6 m6 d6, .bool g7, .slice p7 n7 c7, .slice q7 m7 d7, .bool g8, .slice p8 n8 c8, .slice q8 m8 d8] 27) none).cell x1 (by simp)) (by simp); replace x2 := hg.cell ((World.grownBy_alloc v8 (.cells #[.bool g6, .slice p6 n6 c6, .slice q6 m6 d6, .bool g7, .slice p7 n7 c7, .slice q7 m7 d7, .bool g8, .slice p8 n8 c8, .slice q8 m8 d8] 27) none).cell x2 (by simp)) (by simp); replace x3 := hg.cell ((World.grownBy_alloc v8 (.cells #[.bool g6, .slice p6 n6 c6, .slice q6 m6 d6, .bool g7, .slice p7 n7 c7, .slice q7 m7 d7, .bool g8, .slice p8 n8 c8, .slice q8 m8 d8] 27) none).cell x3 (by simp)) (by simp); replace x4 := hg.cell ((World.grownBy_alloc v8 (.cells #[.bool g6, .slice p6 n6 c6, .slice q6 m6 d6, .bool g7, .slice p7 n7 c7, .slice q7 m7 d7, .bool g8, .slice p8 n8 c8, .slice q8 m8 d8] 27) none).cell x4 (by simp)) (by simp); replace x5 := hg.cell ((World.grownBy_alloc v8 (.cells #[.bool g6, .slice p6 n6 c6, .slice q6 m6 d6, .bool g7, .slice p7 n7 c7, .slice q7 m7 d7, .bool g8, .slice p8 n8 c8, .slice q8 m8 d8] 27) none).cell x5 (by simp)) (by simp); replace y0 := hg.cell ((World.grownBy_alloc v8 (.cells #[.bool g6, .slice p6 n6 c6, .slice q6 m6 d6, .bool g7, .slice p7 n7 c7, .slice q7 m7 d7, .bool g8, .slice p8 n8 c8, .slice q8 m8 d8] 27) none).cell y0 (by simp)) (by simp); replace y1 := hg.cell ((World.grownBy_alloc v8 (.cells #[.bool g6, .slice p6 n6 c6, .slice q6 m6 d6, .bool g7, .slice p7 n7 c7, .slice q7 m7 d7, .bool g8, .slice p8 n8 c8, .slice q8 m8 d8] 27) none).cell y1 (by simp)) (by simp); replace y2 := hg.cell ((World.grownBy_alloc v8 (.cells #[.bool g6, .slice p6 n6 c6, .slice q6 m6 d6, .bool g7, .slice p7 n7 c7, .slice q7 m7 d7, .bool g8, .slice p8 n8 c8, .slice q8 m8 d8] 27) none).cell y2 (by simp)) (by simp); replace y3 := hg.cell ((World.grownBy_alloc v8 (.cells #[.bool g6, .slice p6 n6 c6, .slice q6 m6 d6, .bool g7, .slice p7 n7 c7, .slice q7 m7 d7, .bool g8, .slice p8 n8 c8, .slice q8 m8 d8] 27) none).cell y3 (by simp)) (by simp); replace y4 := hg.cell ((World.grownBy_alloc v8 (.cells #[.bool g6, .slice p6 n6 c6, .slice q6 m6 d6, .bool g7, .slice p7 n7 c7, .slice q7 m7 d7, .bool g8, .slice p8 n8 c8, .slice q8 m8 d8] 27) none).cell y4 (by simp)) (by simp); replace y5 := hg.cell ((World.grownBy_alloc v8 (.cells #[.bool g6, .slice p6 n6 c6, .slice q6 m6 d6, .bool g7, .slice p7 n7 c7, .slice q7 m7 d7, .bool g8, .slice p8 n8 c8, .slice q8 m8 d8] 27) none).cell y5 (by simp)) (by simp); clear hg; have ff := ivbox_facts bxb; obtain ⟨⟨l0, l1, l2, l3, l4, l5⟩, f0, f1, f2, f3, f4, f5⟩ := ff))
  go_wp2_with fail
  exact bodyPost_ret (v := .agg #[.bool g9, .slice p9 n9 c9, .slice q9 m9 d9, .bool g10, .slice p10 n10 c10, .slice q10 m10 d10]) (by simp [results, Tryz.results19, go_sem, l0, l1, l2, l3, l4, l5, f0, f1, f2, f3, f4, f5]) rfl
    (WPost.close bxb (by omega) hWb hR hS2 b1 b2)

/-- a valid interval and no error -/
def WTPost (w : World) (lo hi : Rat) (B : Nat) (e : Ending) (w' : World) : Prop :=
  ∃ (g h : Bool) (p q r s : Option Addr) (n c m d k a l b : Nat), e = .returned (.tuple #[.agg #[.bool g, .slice p n c, .slice q m d, .bool h, .slice r k a, .slice s l b], .int .i64 0]) ∧ IsV w' g p n c q m d lo ∧ IsV w' h r k a s l b hi ∧ (n ≤ B ∧ m ≤ B) ∧ (k ≤ B ∧ l ≤ B) ∧ w.grownBy w' none
theorem WPost.tup {w w' : World} {lo hi : Rat} {B : Nat} {g h : Bool} {p q r s : Option Addr} {n c m d k a l b : Nat} (H : WPost w lo hi B (.returned (.agg #[.bool g, .slice p n c, .slice q m d, .bool h, .slice r k a, .slice s l b])) w') :
    WTPost w lo hi B (.returned (.tuple #[.agg #[.bool g, .slice p n c, .slice q m d, .bool h, .slice r k a, .slice s l b], .int .i64 0])) w' := by
  obtain ⟨g', h', p', q', r', s', n', c', m', d', k', a', l', b', e, rest⟩ := H
  simp at e
  obtain ⟨rfl, ⟨rfl, rfl, rfl⟩, ⟨rfl, rfl, rfl⟩, rfl, ⟨rfl, rfl, rfl⟩, rfl, rfl, rfl⟩ := e
  exact ⟨g, h, p, q, r, s, n, c, m, d, k, a, l, b, rfl, rest⟩
set_option maxRecDepth 20000 in
set_option maxHeartbeats 4000000 in
theorem ivMake_v (S : Nat) {w : World} (T : Tb w) {g1 g2 : Bool} {p1 q1 p2 q2 : Option Addr} {n1 c1 m1 d1 n2 c2 m2 d2 : Nat} {v u : Rat} (hV : IsV w g1 p1 n1 c1 q1 m1 d1 v) (hU : IsV w g2 p2 n2 c2 q2 m2 d2 u) (hle : v ≤ u) (hn1 : n1 ≤ S) (hm1 : m1 ≤ S) (hn2 : n2 ≤ S) (hm2 : m2 ≤ S) (hS : S ≤ 40000) :
    Calls Tryz.prog 28 #[.agg #[.bool g1, .slice p1 n1 c1, .slice q1 m1 d1], .agg #[.bool g2, .slice p2 n2 c2, .slice q2 m2 d2]] w (WTPost w v u S) := by
  have HT := hid T
  have hc : ¬ (0 < cmpR v u) := by
    unfold cmpR
    split
    · omega
    · rename_i h1
      rw [if_pos (by grind)]; omega
  clear T hle
  have hW := (grown_trans (grown_trans (World.grownBy_alloc w (.cells #[.bool g1, .slice p1 n1 c1, .slice q1 m1 d1] 27) none) (World.grownBy_alloc _ (.cells #[.bool g2, .slice p2 n2 c2, .slice q2 m2 d2] 27) none)) (World.grownBy_alloc _ (.cells #[.bool false, .slice none 0 0, .slice none 0 0, .bool false, .slice none 0 0, .slice none 0 0] 29) none))
  have bx0 : (((w.alloc (.cells #[.bool g1, .slice p1 n1 c1, .slice q1 m1 d1] 27)).alloc (.cells #[.bool g2, .slice p2 n2 c2, .slice q2 m2 d2] 27)).alloc (.cells #[.bool false, .slice none 0 0, .slice none 0 0, .bool false, .slice none 0 0, .slice none 0 0] 29)).heap[w.heap.size]? = some (.cells #[.bool g1, .slice p1 n1 c1, .slice q1 m1 d1] 27 (0, 0)) := by
    have h0 := heap_alloc_new w (.cells #[.bool g1, .slice p1 n1 c1, .slice q1 m1 d1] 27)
    have h1 := (grown_trans (World.grownBy_alloc (w.alloc (.cells #[.bool g1, .slice p1 n1 c1, .slice q1 m1 d1] 27)) (.cells #[.bool g2, .slice p2 n2 c2, .slice q2 m2 d2] 27) none) (World.grownBy_alloc _ (.cells #[.bool false, .slice none 0 0, .slice none 0 0, .bool false, .slice none 0 0, .slice none 0 0] 29) none)).block _ (lt_of_block h0) (by simp)
    have h2 := h1.trans h0
    simpa using h2
  obtain ⟨x0, x1, x2, _, _, _⟩ := ratbox_facts bx0
  clear bx0
  have bx1 : (((w.alloc (.cells #[.bool g1, .slice p1 n1 c1, .slice q1 m1 d1] 27)).alloc (.cells #[.bool g2, .slice p2 n2 c2, .slice q2 m2 d2] 27)).alloc (.cells #[.bool false, .slice none 0 0, .slice none 0 0, .bool false, .slice none 0 0, .slice none 0 0] 29)).heap[w.heap.size + 1]? = some (.cells #[.bool g2, .slice p2 n2 c2, .slice q2 m2 d2] 27 (0, 0)) := by
    have h0 := heap_alloc_new (w.alloc (.cells #[.bool g1, .slice p1 n1 c1, .slice q1 m1 d1] 27)) (.cells #[.bool g2, .slice p2 n2 c2, .slice q2 m2 d2] 27)
    have h1 := (World.grownBy_alloc ((w.alloc (.cells #[.bool g1, .slice p1 n1 c1, .slice q1 m1 d1] 27)).alloc (.cells #[.bool g2, .slice p2 n2 c2, .slice q2 m2 d2] 27)) (.cells #[.bool false, .slice none 0 0, .slice none 0 0, .bool false, .slice none 0 0, .slice none 0 0] 29) none).block _ (lt_of_block h0) (by simp)
    have h2 := h1.trans h0
    simpa using h2
  obtain ⟨y0, y1, y2, _, _, _⟩ := ratbox_facts bx1
  clear bx1
  have bx2 : (((w.alloc (.cells #[.bool g1, .slice p1 n1 c1, .slice q1 m1 d1] 27)).alloc (.cells #[.bool g2, .slice p2 n2 c2, .slice q2 m2 d2] 27)).alloc (.cells #[.bool false, .slice none 0 0, .slice none 0 0, .bool false, .slice none 0 0, .slice none 0 0] 29)).heap[w.heap.size + 1 + 1]? = some (.cells #[.bool false, .slice none 0 0, .slice none 0 0, .bool false, .slice none 0 0, .slice none 0 0] 29 (0, 0)) := by
    have := heap_alloc_new ((w.alloc (.cells #[.bool g1, .slice p1 n1 c1, .slice q1 m1 d1] 27)).alloc (.cells #[.bool g2, .slice p2 n2 c2, .slice q2 m2 d2] 27)) (.cells #[.bool false, .slice none 0 0, .slice none 0 0, .bool false, .slice none 0 0, .slice none 0 0] 29)
    simpa using this
  replace hV := hV.keep hW; replace hU := hU.keep hW
  go_enter Tryz.func28, Tryz.ntmps28
  go_wp2_with fail
  generalize (((w.alloc (.cells #[.bool g1, .slice p1 n1 c1, .slice q1 m1 d1] 27)).alloc (.cells #[.bool g2, .slice p2 n2 c2, .slice q2 m2 d2] 27)).alloc (.cells #[.bool false, .slice none 0 0, .slice none 0 0, .bool false, .slice none 0 0, .slice none 0 0] 29)) = w0 at *
  refine (ratRight_v S (HT.out.keep hW) hV hn1 hm1 hS).mono ?_
  rintro ee v1 ⟨rfl, hg⟩
  replace hV := hV.keep hg; replace hU := hU.keep hg; replace x0 := hg.cell x0 (by simp); replace x1 := hg.cell x1 (by simp)
  replace x2 := hg.cell x2 (by simp); replace y0 := hg.cell y0 (by simp); replace y1 := hg.cell y1 (by simp); replace y2 := hg.cell y2 (by simp)
  replace bx2 := (hg.block _ (lt_of_block bx2) (by simp)).trans bx2; replace hW := grown_trans hW hg
  clear hg
  go_wp2_with fail
  refine (ratRight_v S (HT.out.keep hW) hU hn2 hm2 hS).mono ?_
  rintro ee v2 ⟨rfl, hg⟩
  replace hV := hV.keep hg; replace hU := hU.keep hg; replace x0 := hg.cell x0 (by simp); replace x1 := hg.cell x1 (by simp)
  replace x2 := hg.cell x2 (by simp); replace y0 := hg.cell y0 (by simp); replace y1 := hg.cell y1 (by simp); replace y2 := hg.cell y2 (by simp)
  replace bx2 := (hg.block _ (lt_of_block bx2) (by simp)).trans bx2; replace hW := grown_trans hW hg
  clear hg
  go_wp2_with fail
  refine (ratCmp_v S hV.q hU.q hn1 hm1 hn2 hm2 hS).mono ?_
  rintro ee v3 ⟨rfl, hg⟩
  replace hV := hV.keep hg; replace hU := hU.keep hg; replace x0 := hg.cell x0 (by simp); replace x1 := hg.cell x1 (by simp)
  replace x2 := hg.cell x2 (by simp); replace y0 := hg.cell y0 (by simp); replace y1 := hg.cell y1 (by simp); replace y2 := hg.cell y2 (by simp)
  replace bx2 := (hg.block _ (lt_of_block bx2) (by simp)).trans bx2; replace hW := grown_trans hW hg
  clear hg
  go_wp2_with fail
  refine (between_v S hV hU hn1 hm1 hn2 hm2 hS).mono ?_
  rintro ee v4 ⟨g3, g4, p3, q3, p4, q4, n3, c3, m3, d3, n4, c4, m4, d4, rfl, hX, hY, b1, b2, hg⟩
  replace hV := hV.keep hg; replace hU := hU.keep hg; replace x0 := hg.cell x0 (by simp); replace x1 := hg.cell x1 (by simp)
  replace x2 := hg.cell x2 (by simp); replace y0 := hg.cell y0 (by simp); replace y1 := hg.cell y1 (by simp); replace y2 := hg.cell y2 (by simp)
  replace bx2 := (hg.block _ (lt_of_block bx2) (by simp)).trans bx2; replace hW := grown_trans hW hg
  clear hg
  have ff := ivbox_facts bx2; obtain ⟨⟨l0, l1, l2, l3, l4, l5⟩, f0, f1, f2, f3, f4, f5⟩ := ff
  go_wp2_with fail
  exact bodyPost_ret (v := .tuple #[.agg #[.bool g3, .slice p3 n3 c3, .slice q3 m3 d3, .bool g4, .slice p4 n4 c4, .slice q4 m4 d4], .int .i64 0]) (by simp [results, Tryz.results28, go_sem, l0, l1, l2, l3, l4, l5, f0, f1, f2, f3, f4, f5]) rfl
    (WPost.tup (WPost.close bx2 (by omega) hW hX hY b1 b2))
end Go.Proofs.YtcjoecmkkpmjmaaGreatDoor
