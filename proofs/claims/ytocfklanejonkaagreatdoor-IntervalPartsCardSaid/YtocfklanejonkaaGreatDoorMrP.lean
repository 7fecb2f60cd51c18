/-
  RatP, in one text.
-/
import Derived.Test.YtocfklanejonkaaGreatDoorMrO
import Derived.Test.YtocfklanejonkaaGreatDoorMrI
import Derived.Test.YtocfklanejonkaaGreatDoorMrA

set_option linter.unusedVariables false
set_option linter.unusedSimpArgs false
namespace Go.Proofs.YtocfklanejonkaaGreatDoor
open Go.RowKit Nm

theorem floor_q {N : Int} {D : Nat} (hD : 0 < D) : N / (D : Int) = (mkRat N D).floor := by
  have hD' : (0 : Rat) < (D : Rat) := Rat.natCast_pos.2 hD
  have key : ∀ z : Int, z ≤ N / (D : Int) ↔ z ≤ (mkRat N D).floor := by
    intro z
    rw [Int.le_ediv_iff_mul_le (by omega), Rat.le_floor_iff, Rat.mkRat_eq_div, ← Rat.not_lt (a := (N : Rat) / (D : Rat)), Rat.div_lt_iff hD', Rat.not_lt, ← Rat.intCast_le_intCast, Rat.intCast_mul, Rat.intCast_natCast]
  have h1 := (key (N / (D : Int))).1 (Int.le_refl _)
  have h2 := (key (mkRat N D).floor).2 (Int.le_refl _)
  omega
theorem ratFloor_v (S : Nat) {w : World} {g : Bool} {p q : Option Addr} {n c m d : Nat} {v : Rat} (hA : IsQ w g p n c q m d v) (hn : n ≤ S) (hm : m ≤ S) (hS : S ≤ 9000) :
    Calls Tryz.prog 114 #[.agg #[.bool g, .slice p n c, .slice q m d]] w (IPost w v.floor (S + 6)) := by
  obtain ⟨N, D, h1, h2, rfl⟩ := hA
  have := ratFloor_any h1 h2 (by omega) (by omega)
  rw [floor_q (pd_pos D), pq] at this
  exact this.mono fun e w' ⟨g, p, n, c, h1, h2, h3, h4⟩ => ⟨g, p, n, c, h1, h2, by omega, h4⟩

theorem IsQ.of {w : World} {a b : Option Addr} {n c m d : Nat} {xs ys : List Nat} (g : Bool) (h : IRd w .u16 a n c xs) (hx : Dg 65536 xs) (k : IRd w .u16 b m d ys) (hy : Dg 65536 ys) : IsQ w g a n c b m d (mkRat (sg g (V 65536 xs)) (V 65536 ys)) :=
  ⟨_, _, IsZ.of g h hx, IsN.of k hy, rfl⟩
theorem IsV.of_int {w : World} {g : Bool} {p q : Option Addr} {n c m d : Nat} {Z : Int} (h : IsI w g p n c Z) (k : IsC w q m d 1) : IsV w g p n c q m d (Z : Rat) := ⟨by rw [Rat.num_intCast]; exact h, by rw [Rat.den_intCast]; exact k⟩
theorem same3_v {w : World} {g h : Bool} {p q r s : Option Addr} {n c m d k a l b : Nat} {v u : Rat} (hA : IsV w g p n c q m d v) (hB : IsV w h r k a s l b u) (e : v = u) :
    Calls Tryz.prog 44 #[.agg #[.bool g, .slice p n c, .slice q m d], .agg #[.bool h, .slice r k a, .slice s l b]] w fun e w' => e = .returned (.bool true) ∧ w.grownBy w' none :=
  same3_any hA.1 hA.2 hB.1 hB.2 (by rw [e]) (by rw [e])
theorem cmpR_bd (v u : Rat) : -1 ≤ cmpR v u ∧ cmpR v u ≤ 1 := by rcases cmpR_bound v u with h | h | h <;> omega
theorem wrap_sg1 {x : Int} (hx : -1 ≤ x ∧ x ≤ 1) : IntKind.i64.wrap x = x := by
  obtain rfl | rfl | rfl : x = -1 ∨ x = 0 ∨ x = 1 := by omega
  all_goals decide
theorem wrap_sg2 {x y : Int} (hx : -1 ≤ x ∧ x ≤ 1) (hy : -1 ≤ y ∧ y ≤ 1) : IntKind.i64.wrap (x * y) = x * y := by
  obtain rfl | rfl | rfl : x = -1 ∨ x = 0 ∨ x = 1 := by omega
  all_goals obtain rfl | rfl | rfl : y = -1 ∨ y = 0 ∨ y = 1 := by omega
  all_goals decide
theorem eq_cmpR (v u : Rat) : decide (v = u) = (cmpR v u == 0) := by
  by_cases h : v = u
  · rw [decide_eq_true h, cmpR_zero.2 h]; rfl
  · rw [decide_eq_false h]; exact (beq_eq_false_iff_ne.2 (fun k => h (cmpR_zero.1 k))).symm

set_option maxRecDepth 20000 in
set_option maxHeartbeats 4000000 in
theorem ratOf_v (z : Int) (w : World) (h1 : -9223372036854775808 ≤ z) (h2 : z ≤ 9223372036854775807) :
    Calls Tryz.prog 35 #[.int .i64 z] w (VPost w (z : Rat) 4) := by
  have l1 : (dg 65536 1).length = 1 := by rw [dg_step 1 (by omega)]; simp [dg_zero]
  have HL := hid l1
  clear l1
  have hW := (World.grownBy_alloc w (.cells #[.bool false, .slice none 0 0, .slice none 0 0] 27) none)
  have bx0 : (w.alloc (.cells #[.bool false, .slice none 0 0, .slice none 0 0] 27)).heap[w.heap.size]? = some (.cells #[.bool false, .slice none 0 0, .slice none 0 0] 27 (0, 0)) := by
    have := heap_alloc_new w (.cells #[.bool false, .slice none 0 0, .slice none 0 0] 27)
    simpa using this
  skip
  go_enter Tryz.func35, Tryz.ntmps35
  go_wp2_with fail
  generalize (w.alloc (.cells #[.bool false, .slice none 0 0, .slice none 0 0] 27)) = w0 at *
  refine (intOf_any z _ h1 h2).mono ?_
  rintro ee v1 ⟨g1, p1, n1, c1, rfl, hX, hn1, hg⟩
  replace bx0 := (hg.block _ (lt_of_block bx0) (by simp)).trans bx0; replace hW := grown_trans hW hg
  clear hg
  go_wp2_with fail
  refine (of_at 1 1 rfl (by unfold W64; omega) _).mono ?_
  rintro ee v2 ⟨q1, d1, rfl, hY, hg⟩
  replace hX := hX.keep hg; replace bx0 := (hg.block _ (lt_of_block bx0) (by simp)).trans bx0; replace hW := grown_trans hW hg
  clear hg
  have hY2 : IsC v2 q1 (dg 65536 1).length d1 1 := hY
  obtain ⟨l0, l1, l2, f0, f1, f2⟩ := ratbox_facts bx0
  go_wp2_with fail
  exact bodyPost_ret (v := .agg #[.bool g1, .slice p1 n1 c1, .slice q1 (dg 65536 1).length d1]) (by simp [results, Tryz.results35, go_sem, l0, l1, l2, f0, f1, f2]) rfl
    (VPost.close bx0 (by omega) hW (IsV.of_int hX hY2) (by omega) (by rw [HL.out]; omega))
end Go.Proofs.YtocfklanejonkaaGreatDoor
