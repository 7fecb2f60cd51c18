/-
  IvE IvF, in one text.
-/
import Derived.Test.YtcjoecmkkpmjmaaGreatDoorMrD
import Derived.Test.YtcjoecmkkpmjmaaGreatDoorMrA
import Derived.Test.YtcjoecmkkpmjmaaGreatDoorMrS

set_option linter.unusedVariables false
set_option linter.unusedSimpArgs false
namespace Go.Proofs.YtcjoecmkkpmjmaaGreatDoor
open Go.RowKit Nm

theorem fieldAbs {w : World} (g : Bool) (p : Option Addr) (n c : Nat) : (Instr.field 25 (.agg #[.bool g, .slice p n c]) 1).run Tryz.prog w = .ok (.slice p n c) w := by kernel_rfl
theorem scaledFloor_z (S : Nat) {w : World} {g1 : Bool} {p1 q1 : Option Addr} {n1 c1 m1 d1 : Nat} {v : Rat} (hV : IsV w g1 p1 n1 c1 q1 m1 d1 v) (b : Nat) (z : Int) (hz : z = (b : Int)) (hb : b ≤ 400) (hn1 : n1 ≤ S) (hm1 : m1 ≤ S) (hS : S ≤ 8000) :
    Calls Tryz.prog 36 #[.agg #[.bool g1, .slice p1 n1 c1, .slice q1 m1 d1], .int .i64 z] w (IPost w (v * ((2 ^ b : Nat) : Rat)).floor (S + 50)) := by
  subst hz; exact scaledFloor_v S hV b hb hn1 hm1 hS
theorem scaledCeiling_z (S : Nat) {w : World} (T : Tb w) {g1 : Bool} {p1 q1 : Option Addr} {n1 c1 m1 d1 : Nat} {v : Rat} (hV : IsV w g1 p1 n1 c1 q1 m1 d1 v) (b : Nat) (z : Int) (hz : z = (b : Int)) (hb : b ≤ 400) (hn1 : n1 ≤ S) (hm1 : m1 ≤ S) (hS : S ≤ 1900) :
    Calls Tryz.prog 37 #[.agg #[.bool g1, .slice p1 n1 c1, .slice q1 m1 d1], .int .i64 z] w (IPost w (-(-v * ((2 ^ b : Nat) : Rat)).floor) (4 * S + 70)) := by
  subst hz; exact scaledCeiling_v S T hV b hb hn1 hm1 hS
theorem wrap_2b {b : Nat} (hb : b ≤ 200) : IntKind.i64.wrap (2 * (b : Int)) = 2 * (b : Int) := by
  simp only [IntKind.wrap, IntKind.bits, IntKind.signed]
  have : (2 * (b : Int)) % 18446744073709551616 = 2 * (b : Int) := Int.emod_eq_of_lt (by omega) (by omega)
  first | (simp [this]; omega) | omega | (simp; omega)

/-- the square root of an interval on the grid -/
def SqtPost (w : World) (A B : Rat) (b S : Nat) (e : Ending) (w' : World) : Prop :=
  ∃ r s t : Nat, (r * r ≤ (maxR A [0] * ((2 ^ (2 * b) : Nat) : Rat)).floor.natAbs ∧ (maxR A [0] * ((2 ^ (2 * b) : Nat) : Rat)).floor.natAbs < (r + 1) * (r + 1)) ∧
    (s * s ≤ (-(-B * ((2 ^ (2 * b) : Nat) : Rat)).floor).natAbs ∧ (-(-B * ((2 ^ (2 * b) : Nat) : Rat)).floor).natAbs < (s + 1) * (s + 1)) ∧ (t = if (-(-B * ((2 ^ (2 * b) : Nat) : Rat)).floor).natAbs - s * s = 0 then s else s + 1) ∧
    WTPost w (((r : Int) : Rat) / (((2 ^ b : Nat) : Int) : Rat)) (((t : Int) : Rat) / (((2 ^ b : Nat) : Int) : Rat)) (5 * S + 200) e w'
theorem WTPost.close {w w5 : World} {G : Nat} {x x' : Bool} {y z y' z' : Option Addr} {a b e f a' b' e' f' : Nat} {T : TypeId} {g h : Bool} {p q r s : Option Addr} {n c m d k u l v B : Nat} {lo hi : Rat}
    (hW : w5.heap[G]? = some (.cells #[.bool x, .slice y a b, .slice z e f, .bool x', .slice y' a' b', .slice z' e' f'] T (0, 0))) (hG : w.heap.size ≤ G) (hg : w.grownBy w5 none) (h1 : IsV w5 g p n c q m d lo) (h2 : IsV w5 h r k u s l v hi) (b1 : n ≤ B ∧ m ≤ B) (b2 : k ≤ B ∧ l ≤ B) :
    WTPost w lo hi B (.returned (.tuple #[.agg #[.bool g, .slice p n c, .slice q m d, .bool h, .slice r k u, .slice s l v], .int .i64 0])) ((((((w5.setCell ⟨G, 0, none⟩ (.bool g)).setCell ⟨G, 1, none⟩ (.slice p n c)).setCell ⟨G, 2, none⟩ (.slice q m d)).setCell ⟨G, 3, none⟩ (.bool h)).setCell ⟨G, 4, none⟩ (.slice r k u)).setCell ⟨G, 5, none⟩ (.slice s l v)) :=
  (WPost.close hW hG hg h1 h2 b1 b2).tup

theorem one_sz {a : RV} {B : Nat} (h1 : a.n ≤ B ∧ a.m ≤ B) : ∀ r ∈ [a], r.n ≤ B ∧ r.m ≤ B := fun r hr => by
  simp at hr
  subst hr
  exact h1
theorem IsI.abs {w : World} {g : Bool} {p : Option Addr} {n c : Nat} {Z : Int} (h : IsI w g p n c Z) : IsC w p n c Z.natAbs := h.1
set_option maxRecDepth 20000 in
set_option maxHeartbeats 8000000 in
theorem ivSqrt_v (S : Nat) {w : World} (T : Tb w) {g1 g2 : Bool} {p1 q1 p2 q2 : Option Addr} {n1 c1 m1 d1 n2 c2 m2 d2 : Nat} {A B : Rat} (hA : IsV w g1 p1 n1 c1 q1 m1 d1 A) (hB : IsV w g2 p2 n2 c2 q2 m2 d2 B) (b : Nat) (hb : b ≤ 200) (h0 : 0 ≤ B) (hn1 : n1 ≤ S) (hm1 : m1 ≤ S) (hn2 : n2 ≤ S) (hm2 : m2 ≤ S) (hS : S ≤ 1000) :
    Calls Tryz.prog 10 #[.agg #[.bool g1, .slice p1 n1 c1, .slice q1 m1 d1, .bool g2, .slice p2 n2 c2, .slice q2 m2 d2], .int .i64 b] w (SqtPost w A B b S) := by
  have hc : ¬ (cmpR B 0 < 0) := by
    unfold cmpR
    rw [if_neg (by grind)]
    split <;> omega
  have hw2 := wrap_2b hb
  have l1 : (dg 65536 1).length = 1 := by rw [dg_step 1 (by omega)]; simp [dg_zero]
  have HL := hid l1
  have HT := hid T
  have hfd : ∀ (w : World) (g : Bool) (p : Option Addr) (n c : Nat), (Instr.field 25 (.agg #[.bool g, .slice p n c]) 1).run Tryz.prog w = .ok (.slice p n c) w := fun _ _ _ _ _ => by kernel_rfl
  clear T h0 l1
  have hW := (grown_trans (World.grownBy_alloc w (.cells #[.bool g1, .slice p1 n1 c1, .slice q1 m1 d1, .bool g2, .slice p2 n2 c2, .slice q2 m2 d2] 29) none) (World.grownBy_alloc _ (.cells #[.bool false, .slice none 0 0, .slice none 0 0, .bool false, .slice none 0 0, .slice none 0 0] 29) none))
  have bx0 : ((w.alloc (.cells #[.bool g1, .slice p1 n1 c1, .slice q1 m1 d1, .bool g2, .slice p2 n2 c2, .slice q2 m2 d2] 29)).alloc (.cells #[.bool false, .slice none 0 0, .slice none 0 0, .bool false, .slice none 0 0, .slice none 0 0] 29)).heap[w.heap.size]? = some (.cells #[.bool g1, .slice p1 n1 c1, .slice q1 m1 d1, .bool g2, .slice p2 n2 c2, .slice q2 m2 d2] 29 (0, 0)) := by
    have h0 := heap_alloc_new w (.cells #[.bool g1, .slice p1 n1 c1, .slice q1 m1 d1, .bool g2, .slice p2 n2 c2, .slice q2 m2 d2] 29)
    have h1 := (World.grownBy_alloc (w.alloc (.cells #[.bool g1, .slice p1 n1 c1, .slice q1 m1 d1, .bool g2, .slice p2 n2 c2, .slice q2 m2 d2] 29)) (.cells #[.bool false, .slice none 0 0, .slice none 0 0, .bool false, .slice none 0 0, .slice none 0 0] 29) none).block _ (lt_of_block h0) (by simp)
    have h2 := h1.trans h0
    simpa using h2
  have bx1 : ((w.alloc (.cells #[.bool g1, .slice p1 n1 c1, .slice q1 m1 d1, .bool g2, .slice p2 n2 c2, .slice q2 m2 d2] 29)).alloc (.cells #[.bool false, .slice none 0 0, .slice none 0 0, .bool false, .slice none 0 0, .slice none 0 0] 29)).heap[w.heap.size + 1]? = some (.cells #[.bool false, .slice none 0 0, .slice none 0 0, .bool false, .slice none 0 0, .slice none 0 0] 29 (0, 0)) := by
    have := heap_alloc_new (w.alloc (.cells #[.bool g1, .slice p1 n1 c1, .slice q1 m1 d1, .bool g2, .slice p2 n2 c2, .slice q2 m2 d2] 29)) (.cells #[.bool false, .slice none 0 0, .slice none 0 0, .bool false, .slice none 0 0, .slice none 0 0] 29)
    simpa using this
  replace hA := hA.keep hW; replace hB := hB.keep hW
  obtain ⟨⟨x0, x1, x2, x3, x4, x5⟩, _⟩ := ivbox_facts bx0
  clear bx0
  go_enter Tryz.func10, Tryz.ntmps10
  go_wp2_with fail
  generalize ((w.alloc (.cells #[.bool g1, .slice p1 n1 c1, .slice q1 m1 d1, .bool g2, .slice p2 n2 c2, .slice q2 m2 d2] 29)).alloc (.cells #[.bool false, .slice none 0 0, .slice none 0 0, .bool false, .slice none 0 0, .slice none 0 0] 29)) = w0 at *
  refine (isGrid_in (b : Int) (by omega) (by omega)).mono ?_
  rintro ee v1 ⟨rfl, rfl⟩
  go_wp2_with fail
  refine (ratSign_v S hB.q hn2 hm2 (by omega)).mono ?_
  rintro ee v2 ⟨rfl, hg⟩
  replace hA := hA.keep hg; replace hB := hB.keep hg; replace x0 := hg.cell x0 (by simp); replace x1 := hg.cell x1 (by simp)
  replace x2 := hg.cell x2 (by simp); replace x3 := hg.cell x3 (by simp); replace x4 := hg.cell x4 (by simp); replace x5 := hg.cell x5 (by simp)
  replace bx1 := (hg.block _ (lt_of_block bx1) (by simp)).trans bx1; replace hW := grown_trans hW hg
  clear hg
  go_wp2_with fail
  have hg := grown_drew v2 none
  replace hA := hA.keep hg; replace hB := hB.keep hg; replace x0 := hg.cell x0 (by simp); replace x1 := hg.cell x1 (by simp)
  replace x2 := hg.cell x2 (by simp); replace x3 := hg.cell x3 (by simp); replace x4 := hg.cell x4 (by simp); replace x5 := hg.cell x5 (by simp)
  replace bx1 := (hg.block _ (lt_of_block bx1) (by simp)).trans bx1; replace hW := grown_trans hW hg
  clear hg
  go_region_held3 (fun w' => w'.cell? ⟨w.heap.size, 0, none⟩ = some (.bool g1) ∧ w'.cell? ⟨w.heap.size, 1, none⟩ = some (.slice p1 n1 c1) ∧ w'.cell? ⟨w.heap.size, 2, none⟩ = some (.slice q1 m1 d1)) ((try go_split_ands) <;> (repeat' apply And.intro) <;> (repeat (first | (with_reducible assumption) | (with_reducible refine (grown_setCell _ _ _).cell ?_ (by first | (simp; omega) | simp)) | (with_reducible refine (World.grownBy_alloc _ _ none).cell ?_ (by simp)) | (with_reducible refine (grown_drew _ none).cell ?_ (by simp)))))
    (first
      | (go_at_call 29; (with_reducible refine (ratOf_v 0 _ (by omega) (by omega)).mono ?_); rintro ee v3 ⟨g3, p3, n3, c3, q3, m3, d3, rfl, hO, hn3, hm3, hg⟩; replace hA := hA.keep hg; replace hB := hB.keep hg; replace x0 := hg.cell x0 (by simp); replace x1 := hg.cell x1 (by simp); replace x2 := hg.cell x2 (by simp); replace x3 := hg.cell x3 (by simp); replace x4 := hg.cell x4 (by simp); replace x5 := hg.cell x5 (by simp); replace bx1 := (hg.block _ (lt_of_block bx1) (by simp)).trans bx1; replace hW := grown_trans hW hg; clear hg; have hga := World.grownBy_alloc v3 (.cells #[.bool g3, .slice p3 n3 c3, .slice q3 m3 d3] 27) none; have ba := heap_alloc_new v3 (.cells #[.bool g3, .slice p3 n3 c3, .slice q3 m3 d3] 27); have hl : RVs (v3.alloc (.cells #[.bool g3, .slice p3 n3 c3, .slice q3 m3 d3] 27)) v3.heap.size [⟨g3, p3, n3, c3, q3, m3, d3, ((0 : Int) : Rat)⟩] := rvs1 ba (IsV.keep hO hga); have hAa := hA.keep hga; have hBa := hB.keep hga; have hWa := grown_trans hW hga; have bxa := (hga.block _ (lt_of_block bx1) (by simp)).trans bx1; have hGa := lt_of_block ba; have hz1 : n3 ≤ S + 10 := (by omega); have hz2 : m3 ≤ S + 10 := (by omega); have HSZ := hid (show ∀ r ∈ ([⟨g3, p3, n3, c3, q3, m3, d3, ((0 : Int) : Rat)⟩] : List RV), r.n ≤ S + 10 ∧ r.m ≤ S + 10 from one_sz ⟨hz1, hz2⟩); have z0 := hga.cell x0 (by simp); have z1 := hga.cell x1 (by simp); have z2 := hga.cell x2 (by simp); have z3 := hga.cell x3 (by simp); have z4 := hga.cell x4 (by simp); have z5 := hga.cell x5 (by simp); clear hga ba)
      | (go_at_call 43; (with_reducible refine (greatest_v (S + 10) [⟨g3, p3, n3, c3, q3, m3, d3, ((0 : Int) : Rat)⟩] 1 rfl hAa hl hGa HSZ.out (by omega) (by omega) (by omega) (by omega)).mono ?_); rintro ee v4 ⟨g4, p4, n4, c4, q4, m4, d4, rfl, hM, hn4, hm4, hg⟩; replace hBa := hBa.keep hg; replace z0 := hg.cell z0 (by simp); replace z1 := hg.cell z1 (by simp); replace z2 := hg.cell z2 (by simp); replace z3 := hg.cell z3 (by simp); replace z4 := hg.cell z4 (by simp); replace z5 := hg.cell z5 (by simp); replace bxa := (hg.block _ (lt_of_block bxa) (by simp)).trans bxa; replace hWa := grown_trans hWa hg; clear hg)
      | (go_at_call 36; (with_reducible refine (scaledFloor_z (S + 10) hM (2 * b) _ (by omega) (by omega) (by omega) (by omega) (by omega)).mono ?_); rintro ee v5 ⟨g5, p5, n5, c5, rfl, hF, hn5, hg⟩; replace hBa := hBa.keep hg; replace z0 := hg.cell z0 (by simp); replace z1 := hg.cell z1 (by simp); replace z2 := hg.cell z2 (by simp); replace z3 := hg.cell z3 (by simp); replace z4 := hg.cell z4 (by simp); replace z5 := hg.cell z5 (by simp); replace bxa := (hg.block _ (lt_of_block bxa) (by simp)).trans bxa; replace hWa := grown_trans hWa hg; clear hg)
      | (go_at_call 42; (with_reducible refine (natSqrt_n hF.abs.isN (by omega)).mono ?_); rintro ee v6 ⟨R, p6, n6, c6, p7, n7, c7, rfl, hR1, hR2, hR, hR3, hn6, hn7, hg⟩; replace hBa := hBa.keep hg; replace z0 := hg.cell z0 (by simp); replace z1 := hg.cell z1 (by simp); replace z2 := hg.cell z2 (by simp); replace z3 := hg.cell z3 (by simp); replace z4 := hg.cell z4 (by simp); replace z5 := hg.cell z5 (by simp); replace bxa := (hg.block _ (lt_of_block bxa) (by simp)).trans bxa; replace hWa := grown_trans hWa hg; clear hg))
  clear hR3
  replace hR1 := hid hR1; replace hR2 := hid hR2
  go_wp2_with fail
  refine (scaledCeiling_z S (HT.out.keep hWa) hBa (2 * b) _ (by omega) (by omega) hn2 hm2 (by omega)).mono ?_
  rintro ee v7 ⟨g8, p8, n8, c8, rfl, hC, hn8, hg⟩
  replace hBa := hBa.keep hg; replace hR := hR.keep hg; replace z0 := hg.cell z0 (by simp); replace z1 := hg.cell z1 (by simp); replace z2 := hg.cell z2 (by simp); replace z3 := hg.cell z3 (by simp); replace z4 := hg.cell z4 (by simp); replace z5 := hg.cell z5 (by simp); replace bxa := (hg.block _ (lt_of_block bxa) (by simp)).trans bxa; replace hWa := grown_trans hWa hg
  clear hg
  go_wp2_with fail
  refine (natSqrt_n hC.abs.isN (by omega)).mono ?_
  rintro ee v8 ⟨Q, p9, n9, c9, p10, n10, c10, rfl, hQ1, hQ2, hQ, hQ3, hn9, hn10, hg⟩
  replace hBa := hBa.keep hg; replace hR := hR.keep hg; replace z0 := hg.cell z0 (by simp); replace z1 := hg.cell z1 (by simp); replace z2 := hg.cell z2 (by simp); replace z3 := hg.cell z3 (by simp); replace z4 := hg.cell z4 (by simp); replace z5 := hg.cell z5 (by simp); replace bxa := (hg.block _ (lt_of_block bxa) (by simp)).trans bxa; replace hWa := grown_trans hWa hg
  clear hg
  replace hQ1 := hid hQ1; replace hQ2 := hid hQ2
  rcases hQ3.zero_len with ⟨e0, eq⟩ | ⟨e0, eq⟩
  · subst e0
    go_wp2_with fail
    refine (onGrid_v (S + 4 * S + 150) (HT.out.keep hWa) (IsZ.of_n hR.isN) (IsZ.of_n hQ.isN) b (by omega) (by omega) (by omega) (by omega)).mono ?_
    rintro ee v11 ⟨g13, g14, p13, q13, p14, q14, n13, c13, m13, d13, n14, c14, m14, d14, rfl, hX, hY, b1, b2, hg⟩
    replace hBa := hBa.keep hg; replace z0 := hg.cell z0 (by simp); replace z1 := hg.cell z1 (by simp); replace z2 := hg.cell z2 (by simp); replace z3 := hg.cell z3 (by simp); replace z4 := hg.cell z4 (by simp); replace z5 := hg.cell z5 (by simp); replace bxa := (hg.block _ (lt_of_block bxa) (by simp)).trans bxa; replace hWa := grown_trans hWa hg
    clear hg
    have ff := ivbox_facts bxa; obtain ⟨⟨l0, l1, l2, l3, l4, l5⟩, f0, f1, f2, f3, f4, f5⟩ := ff
    go_wp2_with fail
    exact bodyPost_ret (v := .tuple #[.agg #[.bool g13, .slice p13 n13 c13, .slice q13 m13 d13, .bool g14, .slice p14 n14 c14, .slice q14 m14 d14], .int .i64 0]) (by simp [results, Tryz.results10, go_sem, l0, l1, l2, l3, l4, l5, f0, f1, f2, f3, f4, f5]) rfl
      ⟨R, Q, Q, ⟨hR1.out, hR2.out⟩, ⟨hQ1.out, hQ2.out⟩, by rw [if_pos eq], WTPost.close bxa (by omega) hWa hX hY ⟨by omega, by omega⟩ ⟨by omega, by omega⟩⟩
  · have e1 : (0 : Int) < (n10 : Int) := by omega
    go_wp2_with fail
    refine (of_at 1 1 rfl (by unfold W64; omega) _).mono ?_
    rintro ee v9 ⟨p11, c11, rfl, hO1, hg⟩
    have hO2 : IsC v9 p11 (dg 65536 1).length c11 1 := hO1
    clear hO1
    replace hBa := hBa.keep hg; replace hR := hR.keep hg; replace hQ := hQ.keep hg; replace z0 := hg.cell z0 (by simp); replace z1 := hg.cell z1 (by simp); replace z2 := hg.cell z2 (by simp); replace z3 := hg.cell z3 (by simp); replace z4 := hg.cell z4 (by simp); replace z5 := hg.cell z5 (by simp); replace bxa := (hg.block _ (lt_of_block bxa) (by simp)).trans bxa; replace hWa := grown_trans hWa hg
    clear hg
    go_wp2_with fail
    refine (natAdd_n hQ.isN hO2.isN (by omega) (by rw [HL.out]; omega)).mono ?_
    rintro ee v10 ⟨p12, n12, c12, rfl, hP, hn12, hg⟩
    replace hBa := hBa.keep hg; replace hR := hR.keep hg; replace z0 := hg.cell z0 (by simp); replace z1 := hg.cell z1 (by simp); replace z2 := hg.cell z2 (by simp); replace z3 := hg.cell z3 (by simp); replace z4 := hg.cell z4 (by simp); replace z5 := hg.cell z5 (by simp); replace bxa := (hg.block _ (lt_of_block bxa) (by simp)).trans bxa; replace hWa := grown_trans hWa hg
    clear hg
    rw [HL.out] at hn12
    go_wp2_with fail
    refine (onGrid_v (S + 4 * S + 150) (HT.out.keep hWa) (IsZ.of_n hR.isN) (IsZ.of_n hP.isN) b (by omega) (by omega) (by omega) (by omega)).mono ?_
    rintro ee v11 ⟨g13, g14, p13, q13, p14, q14, n13, c13, m13, d13, n14, c14, m14, d14, rfl, hX, hY, b1, b2, hg⟩
    replace hBa := hBa.keep hg; replace z0 := hg.cell z0 (by simp); replace z1 := hg.cell z1 (by simp); replace z2 := hg.cell z2 (by simp); replace z3 := hg.cell z3 (by simp); replace z4 := hg.cell z4 (by simp); replace z5 := hg.cell z5 (by simp); replace bxa := (hg.block _ (lt_of_block bxa) (by simp)).trans bxa; replace hWa := grown_trans hWa hg
    clear hg
    have ff := ivbox_facts bxa; obtain ⟨⟨l0, l1, l2, l3, l4, l5⟩, f0, f1, f2, f3, f4, f5⟩ := ff
    go_wp2_with fail
    exact bodyPost_ret (v := .tuple #[.agg #[.bool g13, .slice p13 n13 c13, .slice q13 m13 d13, .bool g14, .slice p14 n14 c14, .slice q14 m14 d14], .int .i64 0]) (by simp [results, Tryz.results10, go_sem, l0, l1, l2, l3, l4, l5, f0, f1, f2, f3, f4, f5]) rfl
      ⟨R, Q, Q + 1, ⟨hR1.out, hR2.out⟩, ⟨hQ1.out, hQ2.out⟩, by rw [if_neg (by omega)], WTPost.close bxa (by omega) hWa hX hY ⟨by omega, by omega⟩ ⟨by omega, by omega⟩⟩
end Go.Proofs.YtcjoecmkkpmjmaaGreatDoor

set_option linter.unusedVariables false
set_option linter.unusedSimpArgs false
namespace Go.Proofs.YtcjoecmkkpmjmaaGreatDoor
open Go.RowKit Nm

theorem root_8 {r : Nat} (h : r * r ≤ 8 ∧ 8 < (r + 1) * (r + 1)) : r = 2 := by
  obtain ⟨h1, h2⟩ := h
  rcases Nat.lt_trichotomy r 2 with h | h | h
  · have := Nat.mul_le_mul (show r + 1 ≤ 2 by omega) (show r + 1 ≤ 2 by omega); omega
  · exact h
  · have := Nat.mul_le_mul (show 3 ≤ r by omega) (show 3 ≤ r by omega); omega
theorem ev_a : ((-1 : Int) : Rat) ≤ ((2 : Int) : Rat) := by decide +kernel
theorem ev_b : ((3 : Int) : Rat) ≤ ((4 : Int) : Rat) := by decide +kernel
theorem ev_c : (0 : Rat) ≤ ((2 : Int) : Rat) := by decide +kernel
theorem ev_d : (maxR ((2 : Int) : Rat) [0] * ((2 ^ (2 * 1) : Nat) : Rat)).floor.natAbs = 8 := by decide +kernel
theorem ev_e : (-(-((2 : Int) : Rat) * ((2 ^ (2 * 1) : Nat) : Rat)).floor).natAbs = 8 := by decide +kernel
theorem ev_1 : decide (minR (((-1 : Int) : Rat) * ((3 : Int) : Rat)) [((-1 : Int) : Rat) * ((4 : Int) : Rat), ((2 : Int) : Rat) * ((3 : Int) : Rat), ((2 : Int) : Rat) * ((4 : Int) : Rat)] = ((-4 : Int) : Rat)) = true := by decide +kernel
theorem ev_2 : decide (maxR (((-1 : Int) : Rat) * ((3 : Int) : Rat)) [((-1 : Int) : Rat) * ((4 : Int) : Rat), ((2 : Int) : Rat) * ((3 : Int) : Rat), ((2 : Int) : Rat) * ((4 : Int) : Rat)] = ((8 : Int) : Rat)) = true := by decide +kernel
theorem ev_3 : decide (((((2 : Nat) : Int) : Rat) / (((2 ^ 1 : Nat) : Int) : Rat)) = ((1 : Int) : Rat)) = true := by decide +kernel
theorem ev_4 : decide (((((2 + 1 : Nat) : Nat) : Int) : Rat) / (((2 ^ 1 : Nat) : Int) : Rat) = ((3 : Int) : Rat) / ((2 : Int) : Rat)) = true := by decide +kernel

set_option maxRecDepth 100000 in
set_option maxHeartbeats 8000000 in
theorem alive4 {w : World} (T : Tb w) : Calls Tryz.prog 7 #[] w fun e w' => e = .returned (.bool true) ∧ w.grownBy w' none := by
  have HT := hid T
  clear T
  have hW := grown_refl w none
  go_enter Tryz.func7, Tryz.ntmps7
  go_wp2_with fail
  refine (ratOf_v (-1) _ (by omega) (by omega)).mono ?_
  rintro ee v1 ⟨g1, p1, n1, c1, q1, m1, d1, rfl, h1, hn1, hm1, hg⟩
  replace hW := grown_trans hW hg
  clear hg
  go_wp2_with fail
  refine (ratOf_v 2 _ (by omega) (by omega)).mono ?_
  rintro ee v2 ⟨g2, p2, n2, c2, q2, m2, d2, rfl, h2, hn2, hm2, hg⟩
  replace h1 := h1.keep hg; replace hW := grown_trans hW hg
  clear hg
  go_wp2_with fail
  refine (ivMake_v 30 (HT.out.keep hW) h1 h2 ev_a (by omega) (by omega) (by omega) (by omega) (by omega)).mono ?_
  rintro ee v3 ⟨g3, g4, p3, q3, p4, q4, n3, c3, m3, d3, n4, c4, m4, d4, rfl, hA, hB, ba1, ba2, hg⟩
  replace h1 := h1.keep hg; replace h2 := h2.keep hg; replace hW := grown_trans hW hg
  clear hg
  obtain ⟨ban, bam⟩ := ba1; obtain ⟨bak, bal⟩ := ba2
  have hg := World.grownBy_alloc v3 (.cells #[.bool g3, .slice p3 n3 c3, .slice q3 m3 d3, .bool g4, .slice p4 n4 c4, .slice q4 m4 d4] 29) none
  have hb := heap_alloc_new v3 (.cells #[.bool g3, .slice p3 n3 c3, .slice q3 m3 d3, .bool g4, .slice p4 n4 c4, .slice q4 m4 d4] 29)
  replace h1 := h1.keep hg; replace h2 := h2.keep hg; replace hA := hA.keep hg; replace hB := hB.keep hg
  replace hW := grown_trans hW hg
  obtain ⟨⟨x0, x1, x2, x3, x4, x5⟩, _⟩ := ivbox_facts hb
  clear hg hb
  go_wp2_with fail
  generalize v3.alloc (.cells #[.bool g3, .slice p3 n3 c3, .slice q3 m3 d3, .bool g4, .slice p4 n4 c4, .slice q4 m4 d4] 29) = u3w at *
  generalize v3.heap.size = K3 at *
  refine (ratOf_v 3 _ (by omega) (by omega)).mono ?_
  rintro ee v4 ⟨g5, p5, n5, c5, q5, m5, d5, rfl, h5, hn5, hm5, hg⟩
  replace h1 := h1.keep hg; replace h2 := h2.keep hg; replace hA := hA.keep hg; replace hB := hB.keep hg
  replace x0 := hg.cell x0 (by simp); replace x1 := hg.cell x1 (by simp); replace x2 := hg.cell x2 (by simp); replace x3 := hg.cell x3 (by simp)
  replace x4 := hg.cell x4 (by simp); replace x5 := hg.cell x5 (by simp); replace hW := grown_trans hW hg
  clear hg
  go_wp2_with fail
  refine (ratOf_v 4 _ (by omega) (by omega)).mono ?_
  rintro ee v5 ⟨g6, p6, n6, c6, q6, m6, d6, rfl, h6, hn6, hm6, hg⟩
  replace h1 := h1.keep hg; replace h2 := h2.keep hg; replace hA := hA.keep hg; replace hB := hB.keep hg
  replace h5 := h5.keep hg; replace x0 := hg.cell x0 (by simp); replace x1 := hg.cell x1 (by simp); replace x2 := hg.cell x2 (by simp)
  replace x3 := hg.cell x3 (by simp); replace x4 := hg.cell x4 (by simp); replace x5 := hg.cell x5 (by simp); replace hW := grown_trans hW hg
  clear hg
  go_wp2_with fail
  refine (ivMake_v 30 (HT.out.keep hW) h5 h6 ev_b (by omega) (by omega) (by omega) (by omega) (by omega)).mono ?_
  rintro ee v6 ⟨g7, g8, p7, q7, p8, q8, n7, c7, m7, d7, n8, c8, m8, d8, rfl, hC, hD, bc1, bc2, hg⟩
  replace h1 := h1.keep hg; replace h2 := h2.keep hg; replace hA := hA.keep hg; replace hB := hB.keep hg
  replace h5 := h5.keep hg; replace h6 := h6.keep hg; replace x0 := hg.cell x0 (by simp); replace x1 := hg.cell x1 (by simp)
  replace x2 := hg.cell x2 (by simp); replace x3 := hg.cell x3 (by simp); replace x4 := hg.cell x4 (by simp); replace x5 := hg.cell x5 (by simp)
  replace hW := grown_trans hW hg
  clear hg
  obtain ⟨bcn, bcm⟩ := bc1; obtain ⟨bck, bcl⟩ := bc2
  have hg := World.grownBy_alloc v6 (.cells #[.bool g7, .slice p7 n7 c7, .slice q7 m7 d7, .bool g8, .slice p8 n8 c8, .slice q8 m8 d8] 29) none
  have hb := heap_alloc_new v6 (.cells #[.bool g7, .slice p7 n7 c7, .slice q7 m7 d7, .bool g8, .slice p8 n8 c8, .slice q8 m8 d8] 29)
  replace h1 := h1.keep hg; replace h2 := h2.keep hg; replace hA := hA.keep hg; replace hB := hB.keep hg
  replace h5 := h5.keep hg; replace h6 := h6.keep hg; replace hC := hC.keep hg; replace hD := hD.keep hg
  replace x0 := hg.cell x0 (by simp); replace x1 := hg.cell x1 (by simp); replace x2 := hg.cell x2 (by simp); replace x3 := hg.cell x3 (by simp)
  replace x4 := hg.cell x4 (by simp); replace x5 := hg.cell x5 (by simp); replace hW := grown_trans hW hg
  obtain ⟨⟨y0, y1, y2, y3, y4, y5⟩, _⟩ := ivbox_facts hb
  clear hg hb
  go_wp2_with fail
  generalize v6.alloc (.cells #[.bool g7, .slice p7 n7 c7, .slice q7 m7 d7, .bool g8, .slice p8 n8 c8, .slice q8 m8 d8] 29) = u6w at *
  generalize v6.heap.size = K6 at *
  refine (ivMul_v 30 (HT.out.keep hW) hA hB hC hD (by omega) (by omega) (by omega) (by omega) (by omega) (by omega) (by omega) (by omega) (by omega)).mono ?_
  rintro ee v7 ⟨g9, g10, p9, q9, p10, q10, n9, c9, m9, d9, n10, c10, m10, d10, rfl, hE, hF, be1, be2, hg⟩
  replace h1 := h1.keep hg; replace h2 := h2.keep hg; replace hA := hA.keep hg; replace hB := hB.keep hg
  replace h5 := h5.keep hg; replace h6 := h6.keep hg; replace hC := hC.keep hg; replace hD := hD.keep hg
  replace x0 := hg.cell x0 (by simp); replace x1 := hg.cell x1 (by simp); replace x2 := hg.cell x2 (by simp); replace x3 := hg.cell x3 (by simp)
  replace x4 := hg.cell x4 (by simp); replace x5 := hg.cell x5 (by simp); replace y0 := hg.cell y0 (by simp); replace y1 := hg.cell y1 (by simp)
  replace y2 := hg.cell y2 (by simp); replace y3 := hg.cell y3 (by simp); replace y4 := hg.cell y4 (by simp); replace y5 := hg.cell y5 (by simp)
  replace hW := grown_trans hW hg
  clear hg
  obtain ⟨ben, bem⟩ := be1; obtain ⟨bek, bel⟩ := be2
  have hg := World.grownBy_alloc v7 (.cells #[.bool g9, .slice p9 n9 c9, .slice q9 m9 d9, .bool g10, .slice p10 n10 c10, .slice q10 m10 d10] 29) none
  have hb := heap_alloc_new v7 (.cells #[.bool g9, .slice p9 n9 c9, .slice q9 m9 d9, .bool g10, .slice p10 n10 c10, .slice q10 m10 d10] 29)
  replace h1 := h1.keep hg; replace h2 := h2.keep hg; replace hA := hA.keep hg; replace hB := hB.keep hg
  replace h5 := h5.keep hg; replace h6 := h6.keep hg; replace hC := hC.keep hg; replace hD := hD.keep hg
  replace hE := hE.keep hg; replace hF := hF.keep hg; replace x0 := hg.cell x0 (by simp); replace x1 := hg.cell x1 (by simp)
  replace x2 := hg.cell x2 (by simp); replace x3 := hg.cell x3 (by simp); replace x4 := hg.cell x4 (by simp); replace x5 := hg.cell x5 (by simp)
  replace y0 := hg.cell y0 (by simp); replace y1 := hg.cell y1 (by simp); replace y2 := hg.cell y2 (by simp); replace y3 := hg.cell y3 (by simp)
  replace y4 := hg.cell y4 (by simp); replace y5 := hg.cell y5 (by simp); replace hW := grown_trans hW hg
  obtain ⟨⟨z0, z1, z2, z3, z4, z5⟩, _⟩ := ivbox_facts hb
  clear hg hb
  clear h1 h2 h5 h6 hA hB hC hD x0 x1 x2 x3 x4 x5 y0 y1 y2 y3 y4 y5
  go_wp2_with fail
  generalize v7.alloc (.cells #[.bool g9, .slice p9 n9 c9, .slice q9 m9 d9, .bool g10, .slice p10 n10 c10, .slice q10 m10 d10] 29) = u7w at *
  generalize v7.heap.size = K7 at *
  refine (ratOf_v 2 _ (by omega) (by omega)).mono ?_
  rintro ee v8 ⟨g11, p11, n11, c11, q11, m11, d11, rfl, h11, hn11, hm11, hg⟩
  replace hE := hE.keep hg; replace hF := hF.keep hg; replace z0 := hg.cell z0 (by simp); replace z1 := hg.cell z1 (by simp)
  replace z2 := hg.cell z2 (by simp); replace z3 := hg.cell z3 (by simp); replace z4 := hg.cell z4 (by simp); replace z5 := hg.cell z5 (by simp)
  replace hW := grown_trans hW hg
  clear hg
  go_wp2_with fail
  refine (point_v 30 h11 (by omega) (by omega) (by omega)).mono ?_
  rintro ee v9 ⟨g12, g13, p12, q12, p13, q13, n12, c12, m12, d12, n13, c13, m13, d13, rfl, hG, hH, bg1, bg2, hg⟩
  replace hE := hE.keep hg; replace hF := hF.keep hg; replace h11 := h11.keep hg; replace z0 := hg.cell z0 (by simp)
  replace z1 := hg.cell z1 (by simp); replace z2 := hg.cell z2 (by simp); replace z3 := hg.cell z3 (by simp); replace z4 := hg.cell z4 (by simp)
  replace z5 := hg.cell z5 (by simp); replace hW := grown_trans hW hg
  clear hg
  obtain ⟨bgn, bgm⟩ := bg1; obtain ⟨bgk, bgl⟩ := bg2
  go_wp2_with fail
  refine (ivSqrt_v 30 (HT.out.keep hW) hG hH 1 (by omega) ev_c (by omega) (by omega) (by omega) (by omega) (by omega)).mono ?_
  rintro ee v10 ⟨r, s, t, hr, hs, ht, g14, g15, p14, q14, p15, q15, n14, c14, m14, d14, n15, c15, m15, d15, rfl, hI, hJ, bi1, bi2, hg⟩
  rw [ev_d] at hr
  rw [ev_e] at hs
  obtain rfl := root_8 hr
  obtain rfl := root_8 hs
  rw [ev_e, if_neg (by omega)] at ht
  subst ht
  clear hr hs
  replace hE := hE.keep hg; replace hF := hF.keep hg; replace h11 := h11.keep hg; replace hG := hG.keep hg
  replace hH := hH.keep hg; replace z0 := hg.cell z0 (by simp); replace z1 := hg.cell z1 (by simp); replace z2 := hg.cell z2 (by simp)
  replace z3 := hg.cell z3 (by simp); replace z4 := hg.cell z4 (by simp); replace z5 := hg.cell z5 (by simp); replace hW := grown_trans hW hg
  clear hg
  obtain ⟨bin, bim⟩ := bi1; obtain ⟨bik, bil⟩ := bi2
  have hg := World.grownBy_alloc v10 (.cells #[.bool g14, .slice p14 n14 c14, .slice q14 m14 d14, .bool g15, .slice p15 n15 c15, .slice q15 m15 d15] 29) none
  have hb := heap_alloc_new v10 (.cells #[.bool g14, .slice p14 n14 c14, .slice q14 m14 d14, .bool g15, .slice p15 n15 c15, .slice q15 m15 d15] 29)
  replace hE := hE.keep hg; replace hF := hF.keep hg; replace h11 := h11.keep hg; replace hG := hG.keep hg
  replace hH := hH.keep hg; replace hI := hI.keep hg; replace hJ := hJ.keep hg; replace z0 := hg.cell z0 (by simp)
  replace z1 := hg.cell z1 (by simp); replace z2 := hg.cell z2 (by simp); replace z3 := hg.cell z3 (by simp); replace z4 := hg.cell z4 (by simp)
  replace z5 := hg.cell z5 (by simp); replace hW := grown_trans hW hg
  obtain ⟨⟨u0, u1, u2, u3, u4, u5⟩, _⟩ := ivbox_facts hb
  clear hg hb
  clear h11 hG hH
  go_wp2_with fail
  generalize v10.alloc (.cells #[.bool g14, .slice p14 n14 c14, .slice q14 m14 d14, .bool g15, .slice p15 n15 c15, .slice q15 m15 d15] 29) = u10w at *
  generalize v10.heap.size = K10 at *
  have hg := grown_drew u10w none
  replace hE := hE.keep hg; replace hF := hF.keep hg; replace hI := hI.keep hg; replace hJ := hJ.keep hg
  replace z0 := hg.cell z0 (by simp); replace z1 := hg.cell z1 (by simp); replace z2 := hg.cell z2 (by simp); replace z3 := hg.cell z3 (by simp)
  replace z4 := hg.cell z4 (by simp); replace z5 := hg.cell z5 (by simp); replace u0 := hg.cell u0 (by simp); replace u1 := hg.cell u1 (by simp)
  replace u2 := hg.cell u2 (by simp); replace u3 := hg.cell u3 (by simp); replace u4 := hg.cell u4 (by simp); replace u5 := hg.cell u5 (by simp)
  replace hW := grown_trans hW hg
  clear hg
  go_region_held3 (fun w' => w'.cell? ⟨K7, 0, none⟩ = some (.bool g9) ∧ w'.cell? ⟨K7, 1, none⟩ = some (.slice p9 n9 c9) ∧ w'.cell? ⟨K7, 2, none⟩ = some (.slice q9 m9 d9) ∧ w'.cell? ⟨K7, 3, none⟩ = some (.bool g10) ∧ w'.cell? ⟨K7, 4, none⟩ = some (.slice p10 n10 c10) ∧ w'.cell? ⟨K7, 5, none⟩ = some (.slice q10 m10 d10) ∧ w'.cell? ⟨K10, 0, none⟩ = some (.bool g14) ∧ w'.cell? ⟨K10, 1, none⟩ = some (.slice p14 n14 c14) ∧ w'.cell? ⟨K10, 2, none⟩ = some (.slice q14 m14 d14) ∧ w'.cell? ⟨K10, 3, none⟩ = some (.bool g15) ∧ w'.cell? ⟨K10, 4, none⟩ = some (.slice p15 n15 c15) ∧ w'.cell? ⟨K10, 5, none⟩ = some (.slice q15 m15 d15)) ((try go_split_ands) <;> (repeat' apply And.intro) <;> (repeat (first | (with_reducible assumption) | (with_reducible refine (grown_setCell _ _ _).cell ?_ (by first | (simp; omega) | simp)) | (with_reducible refine (World.grownBy_alloc _ _ none).cell ?_ (by simp)) | (with_reducible refine (grown_drew _ none).cell ?_ (by simp)))))
    (first
      | (go_at_call 32; (with_reducible refine (rOf3_v (-4) (by omega) (by omega)).mono ?_); rintro ee v20 ⟨g20, p20, n20, c20, q20, m20, d20, rfl, o0, hn20, hm20, hg⟩; replace hE := hE.keep hg; replace hF := hF.keep hg; replace hI := hI.keep hg; replace hJ := hJ.keep hg; replace z0 := hg.cell z0 (by simp); replace z1 := hg.cell z1 (by simp); replace z2 := hg.cell z2 (by simp); replace z3 := hg.cell z3 (by simp); replace z4 := hg.cell z4 (by simp); replace z5 := hg.cell z5 (by simp); replace u0 := hg.cell u0 (by simp); replace u1 := hg.cell u1 (by simp); replace u2 := hg.cell u2 (by simp); replace u3 := hg.cell u3 (by simp); replace u4 := hg.cell u4 (by simp); replace u5 := hg.cell u5 (by simp); replace hW := grown_trans hW hg; clear hg)
      | (go_at_call 31; (with_reducible refine (rEqual3_v 400 hE.q o0.q (by omega) (by omega) (by omega) (by omega) (by omega)).mono ?_); rintro ee v20b ⟨rfl, hg⟩; rw [ev_1]; replace hE := hE.keep hg; replace hF := hF.keep hg; replace hI := hI.keep hg; replace hJ := hJ.keep hg; replace o0 := o0.keep hg; replace z0 := hg.cell z0 (by simp); replace z1 := hg.cell z1 (by simp); replace z2 := hg.cell z2 (by simp); replace z3 := hg.cell z3 (by simp); replace z4 := hg.cell z4 (by simp); replace z5 := hg.cell z5 (by simp); replace u0 := hg.cell u0 (by simp); replace u1 := hg.cell u1 (by simp); replace u2 := hg.cell u2 (by simp); replace u3 := hg.cell u3 (by simp); replace u4 := hg.cell u4 (by simp); replace u5 := hg.cell u5 (by simp); replace hW := grown_trans hW hg; clear hg)
      | (go_at_call 32; (with_reducible refine (rOf3_v 8 (by omega) (by omega)).mono ?_); rintro ee v21 ⟨g21, p21, n21, c21, q21, m21, d21, rfl, o1, hn21, hm21, hg⟩; replace hE := hE.keep hg; replace hF := hF.keep hg; replace hI := hI.keep hg; replace hJ := hJ.keep hg; replace o0 := o0.keep hg; replace z0 := hg.cell z0 (by simp); replace z1 := hg.cell z1 (by simp); replace z2 := hg.cell z2 (by simp); replace z3 := hg.cell z3 (by simp); replace z4 := hg.cell z4 (by simp); replace z5 := hg.cell z5 (by simp); replace u0 := hg.cell u0 (by simp); replace u1 := hg.cell u1 (by simp); replace u2 := hg.cell u2 (by simp); replace u3 := hg.cell u3 (by simp); replace u4 := hg.cell u4 (by simp); replace u5 := hg.cell u5 (by simp); replace hW := grown_trans hW hg; clear hg)
      | (go_at_call 31; (with_reducible refine (rEqual3_v 400 hF.q o1.q (by omega) (by omega) (by omega) (by omega) (by omega)).mono ?_); rintro ee v21b ⟨rfl, hg⟩; rw [ev_2]; replace hE := hE.keep hg; replace hF := hF.keep hg; replace hI := hI.keep hg; replace hJ := hJ.keep hg; replace o0 := o0.keep hg; replace o1 := o1.keep hg; replace z0 := hg.cell z0 (by simp); replace z1 := hg.cell z1 (by simp); replace z2 := hg.cell z2 (by simp); replace z3 := hg.cell z3 (by simp); replace z4 := hg.cell z4 (by simp); replace z5 := hg.cell z5 (by simp); replace u0 := hg.cell u0 (by simp); replace u1 := hg.cell u1 (by simp); replace u2 := hg.cell u2 (by simp); replace u3 := hg.cell u3 (by simp); replace u4 := hg.cell u4 (by simp); replace u5 := hg.cell u5 (by simp); replace hW := grown_trans hW hg; clear hg)
      | (go_at_call 32; (with_reducible refine (rOf3_v 1 (by omega) (by omega)).mono ?_); rintro ee v22 ⟨g22, p22, n22, c22, q22, m22, d22, rfl, o2, hn22, hm22, hg⟩; replace hE := hE.keep hg; replace hF := hF.keep hg; replace hI := hI.keep hg; replace hJ := hJ.keep hg; replace o0 := o0.keep hg; replace o1 := o1.keep hg; replace z0 := hg.cell z0 (by simp); replace z1 := hg.cell z1 (by simp); replace z2 := hg.cell z2 (by simp); replace z3 := hg.cell z3 (by simp); replace z4 := hg.cell z4 (by simp); replace z5 := hg.cell z5 (by simp); replace u0 := hg.cell u0 (by simp); replace u1 := hg.cell u1 (by simp); replace u2 := hg.cell u2 (by simp); replace u3 := hg.cell u3 (by simp); replace u4 := hg.cell u4 (by simp); replace u5 := hg.cell u5 (by simp); replace hW := grown_trans hW hg; clear hg)
      | (go_at_call 31; (with_reducible refine (rEqual3_v 400 hI.q o2.q (by omega) (by omega) (by omega) (by omega) (by omega)).mono ?_); rintro ee v22b ⟨rfl, hg⟩; rw [ev_3]; replace hE := hE.keep hg; replace hF := hF.keep hg; replace hI := hI.keep hg; replace hJ := hJ.keep hg; replace o0 := o0.keep hg; replace o1 := o1.keep hg; replace o2 := o2.keep hg; replace z0 := hg.cell z0 (by simp); replace z1 := hg.cell z1 (by simp); replace z2 := hg.cell z2 (by simp); replace z3 := hg.cell z3 (by simp); replace z4 := hg.cell z4 (by simp); replace z5 := hg.cell z5 (by simp); replace u0 := hg.cell u0 (by simp); replace u1 := hg.cell u1 (by simp); replace u2 := hg.cell u2 (by simp); replace u3 := hg.cell u3 (by simp); replace u4 := hg.cell u4 (by simp); replace u5 := hg.cell u5 (by simp); replace hW := grown_trans hW hg; clear hg)
      | (go_at_call 33; (with_reducible refine (rFrac3_v 3 2 (by omega) (by omega) (by omega) (by omega)).mono ?_); rintro ee v23 ⟨g23, p23, n23, c23, q23, m23, d23, rfl, o3, hn23, hm23, hg⟩; replace hE := hE.keep hg; replace hF := hF.keep hg; replace hI := hI.keep hg; replace hJ := hJ.keep hg; replace o0 := o0.keep hg; replace o1 := o1.keep hg; replace o2 := o2.keep hg; replace z0 := hg.cell z0 (by simp); replace z1 := hg.cell z1 (by simp); replace z2 := hg.cell z2 (by simp); replace z3 := hg.cell z3 (by simp); replace z4 := hg.cell z4 (by simp); replace z5 := hg.cell z5 (by simp); replace u0 := hg.cell u0 (by simp); replace u1 := hg.cell u1 (by simp); replace u2 := hg.cell u2 (by simp); replace u3 := hg.cell u3 (by simp); replace u4 := hg.cell u4 (by simp); replace u5 := hg.cell u5 (by simp); replace hW := grown_trans hW hg; clear hg)
      | (go_at_call 31; (with_reducible refine (rEqual3_v 400 hJ.q o3.q (by omega) (by omega) (by omega) (by omega) (by omega)).mono ?_); rintro ee v23b ⟨rfl, hg⟩; rw [ev_4]; replace hE := hE.keep hg; replace hF := hF.keep hg; replace hI := hI.keep hg; replace hJ := hJ.keep hg; replace o0 := o0.keep hg; replace o1 := o1.keep hg; replace o2 := o2.keep hg; replace o3 := o3.keep hg; replace z0 := hg.cell z0 (by simp); replace z1 := hg.cell z1 (by simp); replace z2 := hg.cell z2 (by simp); replace z3 := hg.cell z3 (by simp); replace z4 := hg.cell z4 (by simp); replace z5 := hg.cell z5 (by simp); replace u0 := hg.cell u0 (by simp); replace u1 := hg.cell u1 (by simp); replace u2 := hg.cell u2 (by simp); replace u3 := hg.cell u3 (by simp); replace u4 := hg.cell u4 (by simp); replace u5 := hg.cell u5 (by simp); replace hW := grown_trans hW hg; clear hg))
  go_wp2_with fail
  go_ret
  exact ⟨rfl, hW⟩
end Go.Proofs.YtcjoecmkkpmjmaaGreatDoor
