/-
  RatP RatT, in one text.
-/
import Derived.Test.YtkggoniecmlglaaGreatDoorMrO
import Derived.Test.YtkggoniecmlglaaGreatDoorMrA
import Derived.Test.YtkggoniecmlglaaGreatDoorMrS

set_option linter.unusedVariables false
set_option linter.unusedSimpArgs false
namespace Go.Proofs.YtkggoniecmlglaaGreatDoor
open Go.RowKit Nm

theorem floor_q {N : Int} {D : Nat} (hD : 0 < D) : N / (D : Int) = (mkRat N D).floor := by
  have hD' : (0 : Rat) < (D : Rat) := Rat.natCast_pos.2 hD
  have key : ∀ z : Int, z ≤ N / (D : Int) ↔ z ≤ (mkRat N D).floor := by
    intro z
    rw [Int.le_ediv_iff_mul_le (by omega), Rat.le_floor_iff, Rat.mkRat_eq_div, ← Rat.not_lt (a := (N : Rat) / (D : Rat)), Rat.div_lt_iff hD', Rat.not_lt, ← Rat.intCast_le_intCast, Rat.intCast_mul, Rat.intCast_natCast]
  have h1 := (key (N / (D : Int))).1 (Int.le_refl _)
  have h2 := (key (mkRat N D).floor).2 (Int.le_refl _)
  omega

theorem IsQ.of {w : World} {a b : Option Addr} {n c m d : Nat} {xs ys : List Nat} (g : Bool) (h : IRd w .u16 a n c xs) (hx : Dg 65536 xs) (k : IRd w .u16 b m d ys) (hy : Dg 65536 ys) : IsQ w g a n c b m d (mkRat (sg g (V 65536 xs)) (V 65536 ys)) :=
  ⟨_, _, IsZ.of g h hx, IsN.of k hy, rfl⟩
theorem IsV.of_int {w : World} {g : Bool} {p q : Option Addr} {n c m d : Nat} {Z : Int} (h : IsI w g p n c Z) (k : IsC w q m d 1) : IsV w g p n c q m d (Z : Rat) := ⟨by rw [Rat.num_intCast]; exact h, by rw [Rat.den_intCast]; exact k⟩
theorem same3_v {w : World} {g h : Bool} {p q r s : Option Addr} {n c m d k a l b : Nat} {v u : Rat} (hA : IsV w g p n c q m d v) (hB : IsV w h r k a s l b u) (e : v = u) :
    Calls Tryz.prog 11 #[.agg #[.bool g, .slice p n c, .slice q m d], .agg #[.bool h, .slice r k a, .slice s l b]] w fun e w' => e = .returned (.bool true) ∧ w.grownBy w' none :=
  same3_any hA.1 hA.2 hB.1 hB.2 (by rw [e]) (by rw [e])
theorem cmpR_bd (v u : Rat) : -1 ≤ cmpR v u ∧ cmpR v u ≤ 1 := by rcases cmpR_bound v u with h | h | h <;> omega
theorem wrap_sg1 {x : Int} (hx : -1 ≤ x ∧ x ≤ 1) : IntKind.i64.wrap x = x := by
  obtain rfl | rfl | rfl : x = -1 ∨ x = 0 ∨ x = 1 := by omega
  all_goals decide
theorem wrap_sg2 {x y : Int} (hx : -1 ≤ x ∧ x ≤ 1) (hy : -1 ≤ y ∧ y ≤ 1) : IntKind.i64.wrap (x * y) = x * y := by
  obtain rfl | rfl | rfl : x = -1 ∨ x = 0 ∨ x = 1 := by omega
  all_goals obtain rfl | rfl | rfl : y = -1 ∨ y = 0 ∨ y = 1 := by omega
  all_goals decide
theorem eq_cmpR (v u : Rat) : decide (v = u) = (cmpR v u == 0) := by
  by_cases h : v = u
  · rw [decide_eq_true h, cmpR_zero.2 h]; rfl
  · rw [decide_eq_false h]; exact (beq_eq_false_iff_ne.2 (fun k => h (cmpR_zero.1 k))).symm

set_option maxRecDepth 20000 in
set_option maxHeartbeats 4000000 in
theorem ratOf_v (z : Int) (w : World) (h1 : -9223372036854775808 ≤ z) (h2 : z ≤ 9223372036854775807) :
    Calls Tryz.prog 48 #[.int .i64 z] w (VPost w (z : Rat) 4) := by
  have l1 : (dg 65536 1).length = 1 := by rw [dg_step 1 (by omega)]; simp [dg_zero]
  have HL := hid l1
  clear l1
  have hW := (World.grownBy_alloc w (.cells #[.bool false, .slice none 0 0, .slice none 0 0] 27) none)
  have bx0 : (w.alloc (.cells #[.bool false, .slice none 0 0, .slice none 0 0] 27)).heap[w.heap.size]? = some (.cells #[.bool false, .slice none 0 0, .slice none 0 0] 27 (0, 0)) := by
    have := heap_alloc_new w (.cells #[.bool false, .slice none 0 0, .slice none 0 0] 27)
    simpa using this
  skip
  go_enter Tryz.func48, Tryz.ntmps48
  go_wp2_with fail
  generalize (w.alloc (.cells #[.bool false, .slice none 0 0, .slice none 0 0] 27)) = w0 at *
  refine (intOf_any z _ h1 h2).mono ?_
  rintro ee v1 ⟨g1, p1, n1, c1, rfl, hX, hn1, hg⟩
  replace bx0 := (hg.block _ (lt_of_block bx0) (by simp)).trans bx0; replace hW := grown_trans hW hg
  clear hg
  go_wp2_with fail
  refine (of_at 1 1 rfl (by unfold W64; omega) _).mono ?_
  rintro ee v2 ⟨q1, d1, rfl, hY, hg⟩
  replace hX := hX.keep hg; replace bx0 := (hg.block _ (lt_of_block bx0) (by simp)).trans bx0; replace hW := grown_trans hW hg
  clear hg
  have hY2 : IsC v2 q1 (dg 65536 1).length d1 1 := hY
  obtain ⟨l0, l1, l2, f0, f1, f2⟩ := ratbox_facts bx0
  go_wp2_with fail
  exact bodyPost_ret (v := .agg #[.bool g1, .slice p1 n1 c1, .slice q1 (dg 65536 1).length d1]) (by simp [results, Tryz.results48, go_sem, l0, l1, l2, f0, f1, f2]) rfl
    (VPost.close bx0 (by omega) hW (IsV.of_int hX hY2) (by omega) (by rw [HL.out]; omega))
end Go.Proofs.YtkggoniecmlglaaGreatDoor

set_option linter.unusedVariables false
set_option linter.unusedSimpArgs false
namespace Go.Proofs.YtkggoniecmlglaaGreatDoor
open Go.RowKit Nm

set_option maxRecDepth 20000 in
set_option maxHeartbeats 4000000 in
theorem ratNeg_v (S : Nat) {w : World} (T : Tb w) {g1 : Bool} {p1 q1 : Option Addr} {n1 c1 m1 d1 : Nat} {v : Rat} (hA : IsQ w g1 p1 n1 c1 q1 m1 d1 v) (hn1 : n1 ≤ S) (hm1 : m1 ≤ S) (hS : S ≤ 40000) :
    Calls Tryz.prog 15 #[.agg #[.bool g1, .slice p1 n1 c1, .slice q1 m1 d1]] w (VPost w (-v) (4 * S + 20)) := by
  have HT := hid T
  clear T
  have hW := (grown_trans (World.grownBy_alloc w (.cells #[.bool g1, .slice p1 n1 c1, .slice q1 m1 d1] 27) none) (World.grownBy_alloc _ (.cells #[.bool false, .slice none 0 0, .slice none 0 0] 27) none))
  have bx0 : ((w.alloc (.cells #[.bool g1, .slice p1 n1 c1, .slice q1 m1 d1] 27)).alloc (.cells #[.bool false, .slice none 0 0, .slice none 0 0] 27)).heap[w.heap.size]? = some (.cells #[.bool g1, .slice p1 n1 c1, .slice q1 m1 d1] 27 (0, 0)) := by
    have h0 := heap_alloc_new w (.cells #[.bool g1, .slice p1 n1 c1, .slice q1 m1 d1] 27)
    have h1 := (World.grownBy_alloc (w.alloc (.cells #[.bool g1, .slice p1 n1 c1, .slice q1 m1 d1] 27)) (.cells #[.bool false, .slice none 0 0, .slice none 0 0] 27) none).block _ (lt_of_block h0) (by simp)
    have h2 := h1.trans h0
    simpa using h2
  obtain ⟨x0, x1, x2, _, _, _⟩ := ratbox_facts bx0
  clear bx0
  have bx1 : ((w.alloc (.cells #[.bool g1, .slice p1 n1 c1, .slice q1 m1 d1] 27)).alloc (.cells #[.bool false, .slice none 0 0, .slice none 0 0] 27)).heap[w.heap.size + 1]? = some (.cells #[.bool false, .slice none 0 0, .slice none 0 0] 27 (0, 0)) := by
    have := heap_alloc_new (w.alloc (.cells #[.bool g1, .slice p1 n1 c1, .slice q1 m1 d1] 27)) (.cells #[.bool false, .slice none 0 0, .slice none 0 0] 27)
    simpa using this
  replace hA := hA.keep hW
  go_enter Tryz.func15, Tryz.ntmps15
  go_wp2_with fail
  generalize ((w.alloc (.cells #[.bool g1, .slice p1 n1 c1, .slice q1 m1 d1] 27)).alloc (.cells #[.bool false, .slice none 0 0, .slice none 0 0] 27)) = w0 at *
  refine (opposite_any _ _ _ _ _ _ _).mono ?_
  rintro ee v1 ⟨rfl, hg⟩
  replace hA := hA.keep hg; replace x0 := hg.cell x0 (by simp); replace x1 := hg.cell x1 (by simp); replace x2 := hg.cell x2 (by simp)
  replace bx1 := (hg.block _ (lt_of_block bx1) (by simp)).trans bx1; replace hW := grown_trans hW hg
  clear hg
  obtain ⟨N, D, hX, hE, HV⟩ := hA.opp
  replace HV := hid HV
  clear hA
  go_wp2_with fail
  refine (parts_any hX hE (by omega) (by omega)).mono ?_
  rintro ee v2 ⟨g3, p3, n3, c3, q3, m3, d3, rfl, hN, hD, hn3, hm3, hg⟩
  replace hX := hX.keep hg; replace hE := hE.keep hg; replace x0 := hg.cell x0 (by simp); replace x1 := hg.cell x1 (by simp)
  replace x2 := hg.cell x2 (by simp); replace bx1 := (hg.block _ (lt_of_block bx1) (by simp)).trans bx1; replace hW := grown_trans hW hg
  clear hg
  go_wp2_with fail
  refine (lowest_v (B := S + 5) (HT.out.keep hW) hN hD (pd_pos D) (by omega) (by omega) (by omega)).mono ?_
  rintro ee v3 ⟨g6, p6, n6, c6, q6, m6, d6, rfl, hZ, hn6, hm6, hg⟩
  replace hX := hX.keep hg; replace hE := hE.keep hg; replace hN := hN.keep hg; replace hD := hD.keep hg
  replace x0 := hg.cell x0 (by simp); replace x1 := hg.cell x1 (by simp); replace x2 := hg.cell x2 (by simp); replace bx1 := (hg.block _ (lt_of_block bx1) (by simp)).trans bx1
  replace hW := grown_trans hW hg
  clear hg
  obtain ⟨l0, l1, l2, f0, f1, f2⟩ := ratbox_facts bx1
  go_wp2_with fail
  exact bodyPost_ret (v := .agg #[.bool g6, .slice p6 n6 c6, .slice q6 m6 d6]) (by simp [results, Tryz.results15, go_sem, l0, l1, l2, f0, f1, f2]) rfl
    (VPost.close bx1 (by omega) hW (hZ.congr ((pq N D).trans HV.out.symm)) (by omega) (by omega))

set_option maxHeartbeats 1000000 in
theorem same_ne (a b : Option Addr) (n c d : Nat) (xs ys : List Nat) (w : World) (h : IRd w .u16 a n c xs) (k : IRd w .u16 b n d ys) (hne : xs ≠ ys) :
    Calls Tryz.prog 35 #[.slice a n c, .slice b n d] w fun e w' => e = .returned (.bool false) ∧ w.grownBy w' none := by
  have hmax := h.max
  have hcap := h.cap
  have HL := hid h.len
  have HK := hid k.len
  have HN := hid hne
  clear hne
  go_enter Tryz.func35, Tryz.ntmps35
  go_wp2_with fail
  go_loopw [5] (fun i wr => ∃ j : Nat, j ≤ n ∧ i = .int .i64 j ∧ w.grownBy wr none ∧ Hid (∀ l, l < j → xs[l]? = ys[l]?)) (fun i _ => n - (intOf i).toNat)
  case atStart => exact ⟨0, Nat.zero_le _, rfl, grown_refl _ _, hid fun l h => by omega⟩
  case round =>
    obtain ⟨i, hi, rfl, hgr, HE⟩ := hrel
    by_cases hlt : i < n
    · have hiu : i < xs.length := by rw [HL.out]; exact hlt
      have hiv : i < ys.length := by rw [HK.out]; exact hlt
      obtain ⟨b1, o1, rfl, hc1⟩ := h.cel i hiu
      obtain ⟨b2, o2, rfl, hc2⟩ := k.cel i hiv
      have hd1 := hgr.cell hc1 (by simp)
      have hd2 := hgr.cell hc2 (by simp)
      have e1 := hid (show xs[i]? = some xs[i] by simp [hiu])
      have e2 := hid (show ys[i]? = some ys[i] by simp [hiv])
      generalize xs[i] = x at *
      generalize ys[i] = y at *
      clear hc1 hc2
      have hi0 : (0 : Int) ≤ (i : Int) := by omega
      have hil : (i : Int) < (n : Int) := by omega
      by_cases hxy : x = y
      · subst hxy
        go_wp2
        go_quiet (fail)
        go_wp2
        refine ⟨⟨i + 1, by omega, rfl, gdN hgr _, hid fun l hl => ?_⟩, by simp [intOf]; omega⟩
        by_cases e : l = i
        · subst e; rw [e1.out, e2.out]
        · exact HE.out l (by omega)
      · have hb : (((x : Int) != (y : Int)) = true) := by simp; omega
        go_wp2
        go_quiet (fail)
        go_wp2
        go_ret
        exact ⟨rfl, gdN hgr _⟩
    · obtain rfl : i = n := by omega
      exact absurd (List.ext_getElem? fun l => by
        by_cases hl : l < i
        · exact HE.out l hl
        · rw [List.getElem?_eq_none (by have := HL.out; omega), List.getElem?_eq_none (by have := HK.out; omega)]) HN.out

theorem same_d {w : World} {p q : Option Addr} {n c m d N M : Nat} (hA : IsC w p n c N) (hB : IsC w q m d M) :
    Calls Tryz.prog 35 #[.slice p n c, .slice q m d] w fun e w' => e = .returned (.bool (decide (N = M))) ∧ w.grownBy w' none := by
  by_cases e : N = M
  · rw [decide_eq_true e]; exact same_c hA hB e
  rw [decide_eq_false e]
  by_cases hl : n = m
  · subst hl
    refine same_ne p q n c d _ _ w hA hB (fun h => e ?_)
    rw [← V_dg (B := 65536) (by omega) N, h, V_dg (by omega)]
  · have hmax := IRd.max hA
    have hmax2 := IRd.max hB
    have t0 : (((n : Int) != (m : Int)) = true) := by simp; omega
    go_enter Tryz.func35, Tryz.ntmps35
    go_wp2
    go_ret
    exact ⟨rfl, grown_refl _ _⟩

end Go.Proofs.YtkggoniecmlglaaGreatDoor
