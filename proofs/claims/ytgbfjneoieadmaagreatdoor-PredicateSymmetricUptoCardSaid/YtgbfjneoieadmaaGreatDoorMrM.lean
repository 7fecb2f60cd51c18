/-
  RatM, in one text.
-/
import Derived.Test.YtgbfjneoieadmaaGreatDoorMrA
import Derived.Test.YtgbfjneoieadmaaGreatDoorIntA
import Derived.Deep.RegionHeld3
import Derived.Deep.DeepCutAuto

set_option linter.unusedVariables false
set_option linter.unusedSimpArgs false
namespace Go.Proofs.YtgbfjneoieadmaaGreatDoor
open Go.RowKit Nm

theorem wholeS_any {w : World} (p : Option Addr) (n c : Nat) :
    Calls Tryz.prog 153 #[.slice p n c] w fun e w' => e = .returned (.agg #[.bool false, .slice p n c]) ∧ w.grownBy w' none := by
  go_enter Tryz.func153, Tryz.ntmps153
  go_wp2
  exact bodyPost_ret (v := .agg #[.bool false, .slice p n c]) (by simp [results, Tryz.results153, go_sem]) rfl ⟨rfl, World.grownBy_alloc w _ none⟩

/-- a struct of a bool and a slice, written -/
theorem set2_block {w : World} {G : Nat} {x : Bool} {y : Option Addr} {a b : Nat} {T : TypeId} (hb : w.heap[G]? = some (.cells #[.bool x, .slice y a b] T (0, 0))) (g : Bool) (p : Option Addr) (n c : Nat) :
    ((w.setCell ⟨G, 0, none⟩ (.bool g)).setCell ⟨G, 1, none⟩ (.slice p n c)).heap[G]? = some (.cells #[.bool g, .slice p n c] T (0, 0)) := by
  have h1 := heap_setCell_same w G 0 _ _ (.bool g) hb
  have h2 := heap_setCell_same _ G 1 _ _ (.slice p n c) h1
  rw [h2]
  simp
theorem set2_grown (w : World) (G : Nat) (a b : Value) : w.grownBy ((w.setCell ⟨G, 0, none⟩ a).setCell ⟨G, 1, none⟩ b) (some G) :=
  grown_trans (grown_setCell w ⟨G, 0, none⟩ a) (grown_setCell _ ⟨G, 1, none⟩ b)
theorem IsZ.of_n {w : World} {q : Option Addr} {m d D : Nat} (h : IsN w q m d D) : IsZ w false q m d (D : Int) := IsZ.mk false h

theorem sum_val {X N M : Int} {Y D E : Nat} (hY : 0 < Y) (h : mkRat X Y = mkRat N D) : mkRat (X * (pd E : Int) + pn M E * (Y : Int)) (Y * pd E) = mkRat N D + mkRat M E := by
  rw [← h, ← pq M E, Rat.mkRat_add_mkRat _ _ (by omega) (by have := pd_pos E; omega)]

set_option maxRecDepth 20000 in
set_option maxHeartbeats 8000000 in
theorem ratSum_v (S : Nat) {w : World} (T : Tb w) {g1 g2 : Bool} {p1 q1 p2 q2 : Option Addr} {n1 c1 m1 d1 n2 c2 m2 d2 G : Nat} {v u : Rat} (hA : IsQ w g1 p1 n1 c1 q1 m1 d1 v) (hB : IsQ w g2 p2 n2 c2 q2 m2 d2 u) (hG : G < w.heap.size) (y0 : w.cell? ⟨G, 0, none⟩ = some (.bool g2)) (y1 : w.cell? ⟨G, 1, none⟩ = some (.slice p2 n2 c2)) (y2 : w.cell? ⟨G, 2, none⟩ = some (.slice q2 m2 d2)) (hn1 : n1 ≤ S) (hm1 : m1 ≤ S) (hn2 : n2 ≤ S) (hm2 : m2 ≤ S) (hS : S ≤ 40000) :
    Calls Tryz.prog 133 #[.agg #[.bool g1, .slice p1 n1 c1, .slice q1 m1 d1], .slice (some ⟨G, 0, none⟩) 1 1] w (VPost w (v + u) (4 * S + 20)) := by
  obtain ⟨N, D, hA, hE, rfl⟩ := hA
  obtain ⟨M, E, hB, hF, rfl⟩ := hB
  have HT := hid T
  have HE := hid (pd_pos E)
  clear T
  have hW := (grown_trans (World.grownBy_alloc w (.cells #[.bool g1, .slice p1 n1 c1, .slice q1 m1 d1] 27) none) (World.grownBy_alloc _ (.cells #[.bool false, .slice none 0 0, .slice none 0 0] 27) none))
  have bx0 : ((w.alloc (.cells #[.bool g1, .slice p1 n1 c1, .slice q1 m1 d1] 27)).alloc (.cells #[.bool false, .slice none 0 0, .slice none 0 0] 27)).heap[w.heap.size]? = some (.cells #[.bool g1, .slice p1 n1 c1, .slice q1 m1 d1] 27 (0, 0)) := by
    have h0 := heap_alloc_new w (.cells #[.bool g1, .slice p1 n1 c1, .slice q1 m1 d1] 27)
    have h1 := (World.grownBy_alloc (w.alloc (.cells #[.bool g1, .slice p1 n1 c1, .slice q1 m1 d1] 27)) (.cells #[.bool false, .slice none 0 0, .slice none 0 0] 27) none).block _ (lt_of_block h0) (by simp)
    have h2 := h1.trans h0
    simpa using h2
  obtain ⟨x0, x1, x2, _, _, _⟩ := ratbox_facts bx0
  clear bx0
  have bx1 : ((w.alloc (.cells #[.bool g1, .slice p1 n1 c1, .slice q1 m1 d1] 27)).alloc (.cells #[.bool false, .slice none 0 0, .slice none 0 0] 27)).heap[w.heap.size + 1]? = some (.cells #[.bool false, .slice none 0 0, .slice none 0 0] 27 (0, 0)) := by
    have := heap_alloc_new (w.alloc (.cells #[.bool g1, .slice p1 n1 c1, .slice q1 m1 d1] 27)) (.cells #[.bool false, .slice none 0 0, .slice none 0 0] 27)
    simpa using this
  replace hA := hA.keep hW; replace hE := hE.keep hW; replace hB := hB.keep hW; replace hF := hF.keep hW; replace y0 := hW.cell y0 (by simp); replace y1 := hW.cell y1 (by simp); replace y2 := hW.cell y2 (by simp)
  go_enter Tryz.func133, Tryz.ntmps133
  go_wp2_with fail
  generalize ((w.alloc (.cells #[.bool g1, .slice p1 n1 c1, .slice q1 m1 d1] 27)).alloc (.cells #[.bool false, .slice none 0 0, .slice none 0 0] 27)) = w0 at *
  refine (parts_any hA hE (by omega) (by omega)).mono ?_
  rintro ee v1 ⟨g3, p3, n3, c3, q3, m3, d3, rfl, hN, hD, hn3, hm3, hg⟩
  replace hA := hA.keep hg; replace hE := hE.keep hg; replace hB := hB.keep hg; replace hF := hF.keep hg
  replace y0 := hg.cell y0 (by simp); replace y1 := hg.cell y1 (by simp); replace y2 := hg.cell y2 (by simp); replace x0 := hg.cell x0 (by simp)
  replace x1 := hg.cell x1 (by simp); replace x2 := hg.cell x2 (by simp); replace bx1 := (hg.block _ (lt_of_block bx1) (by simp)).trans bx1; replace hW := grown_trans hW hg
  clear hg
  have hK := lt_of_block bx1
  have hg := World.grownBy_alloc v1 (.cells #[.bool g3, .slice p3 n3 c3] 25) none
  have bK := heap_alloc_new v1 (.cells #[.bool g3, .slice p3 n3 c3] 25)
  replace hA := hA.keep hg; replace hE := hE.keep hg; replace hB := hB.keep hg; replace hF := hF.keep hg
  replace hN := hN.keep hg; replace hD := hD.keep hg; replace y0 := hg.cell y0 (by simp); replace y1 := hg.cell y1 (by simp)
  replace y2 := hg.cell y2 (by simp); replace x0 := hg.cell x0 (by simp); replace x1 := hg.cell x1 (by simp); replace x2 := hg.cell x2 (by simp)
  replace bx1 := (hg.block _ (lt_of_block bx1) (by simp)).trans bx1; replace hW := grown_trans hW hg
  clear hg
  obtain ⟨z0, z1, fz0, fz1⟩ := intbox_facts bK
  go_wp2_with fail
  generalize v1.alloc (.cells #[.bool g3, .slice p3 n3 c3] 25) = u1 at *
  generalize v1.heap.size = K at *
  have hGK : G ≠ K := by omega
  clear z0 z1 fz0 fz1 x0 x1 x2
  go_loopw [6, 18] (fun s6 i wr => ∃ (k : Nat) (g : Bool) (p : Option Addr) (n c : Nat) (q : Option Addr) (m d : Nat) (X : Int) (Y : Nat), k ≤ 1 ∧ i = .int .i64 k ∧ s6 = .slice q m d ∧ wr.heap[K]? = some (.cells #[.bool g, .slice p n c] 25 (0, 0)) ∧ IsZ wr g p n c X ∧ IsN wr q m d Y ∧ u1.grownBy wr (some K) ∧ Hid (0 < Y ∧ mkRat X Y = (if k = 0 then mkRat N D else mkRat N D + mkRat M E) ∧ n ≤ 4 * S + 17 ∧ m ≤ 4 * S + 17 ∧ (k = 0 → n ≤ S + 4 ∧ m ≤ S + 4))) (fun _ i _ => 1 - (intOf i).toNat)
  case atStart => exact ⟨0, g3, p3, n3, c3, q3, m3, d3, _, _, by omega, rfl, rfl, bK, hN, hD, grown_refl _ _, hid ⟨pd_pos _, by rw [pq]; simp, by omega, by omega, fun _ => ⟨by omega, by omega⟩⟩⟩
  case round =>
    obtain ⟨k, g5, p5, n5, c5, q5, m5, d5, X, Y, hk, rfl, rfl, bZ, hX, hY, hgr, HI⟩ := hrel
    by_cases hlt : k < 1
    · obtain rfl : k = 0 := by omega
      obtain ⟨hY0, hV, -, -, hS5⟩ := HI.out
      obtain ⟨hn5, hm5⟩ := hS5 rfl
      rw [if_pos rfl] at hV
      clear HI hS5
      replace hB := hB.other2 bK hgr; replace hF := hF.other2 bK hgr
      replace y0 := hgr.cell y0 (by simp; omega); replace y1 := hgr.cell y1 (by simp; omega); replace y2 := hgr.cell y2 (by simp; omega)
      have HV := hid hV
      clear hV
      have hH := hgr
      have hKu := lt_of_block bK
      clear hgr hA hE hN hD bx1 hW bK
      by_cases e1 : pd E = 1
      · have EE1 := hid e1
        have HE1 := hid (decide_eq_true e1)
        clear e1
        by_cases e2 : Y = 1
        · have EE2 := hid e2
          have HE2 := hid (decide_eq_true e2)
          clear e2
          have hg := World.grownBy_alloc wr (.cells #[.bool g2, .slice p2 n2 c2, .slice q2 m2 d2] 27) none
          have bx := heap_alloc_new wr (.cells #[.bool g2, .slice p2 n2 c2, .slice q2 m2 d2] 27)
          obtain ⟨r0, r1, r2, _, _, _⟩ := ratbox_facts bx
          clear bx
          replace hB := hB.keep hg; replace hF := hF.keep hg; replace hX := hX.keep hg; replace hY := hY.keep hg; replace bZ := (hg.block _ (lt_of_block bZ) (by simp)).trans bZ; replace hH := grown_none hH hg
          clear hg
          go_wp2_with fail
          generalize wr.alloc (.cells #[.bool g2, .slice p2 n2 c2, .slice q2 m2 d2] 27) = wa at *
          refine (parts_any hB hF (by omega) (by omega)).mono ?_
          rintro ee w1 ⟨g6, p6, n6, c6, q6, m6, d6, rfl, hM, hL, hn6, hm6, hg⟩
          replace hB := hB.keep hg; replace hF := hF.keep hg; replace hX := hX.keep hg; replace hY := hY.keep hg; replace bZ := (hg.block _ (lt_of_block bZ) (by simp)).trans bZ; replace hH := grown_none hH hg
          clear hg r0 r1 r2 hB hF
          have hK4 := lt_of_block bZ
          have hu4 := hH.size
          have hg := World.grownBy_alloc w1 (.cells #[.bool g6, .slice p6 n6 c6] 25) none
          have bL := heap_alloc_new w1 (.cells #[.bool g6, .slice p6 n6 c6] 25)
          replace hX := hX.keep hg; replace hY := hY.keep hg; replace hM := hM.keep hg; replace hL := hL.keep hg; replace bZ := (hg.block _ (lt_of_block bZ) (by simp)).trans bZ; replace hH := grown_none hH hg
          clear hg
          go_wp2_with fail
          generalize w1.alloc (.cells #[.bool g6, .slice p6 n6 c6] 25) = wb at *
          generalize w1.heap.size = K4 at *
          refine (isOne_any hL).mono ?_
          rintro ee w2 ⟨rfl, hg⟩
          rw [HE1.out]
          replace hX := hX.keep hg; replace hY := hY.keep hg; replace hM := hM.keep hg; replace hL := hL.keep hg; replace bZ := (hg.block _ (lt_of_block bZ) (by simp)).trans bZ; replace bL := (hg.block _ (lt_of_block bL) (by simp)).trans bL; replace hH := grown_none hH hg
          clear hg
          go_wp2_with fail
          refine (isOne_any hY).mono ?_
          rintro ee w3 ⟨rfl, hg⟩
          rw [HE2.out]
          replace hX := hX.keep hg; replace hY := hY.keep hg; replace hM := hM.keep hg; replace hL := hL.keep hg; replace bZ := (hg.block _ (lt_of_block bZ) (by simp)).trans bZ; replace bL := (hg.block _ (lt_of_block bL) (by simp)).trans bL; replace hH := grown_none hH hg
          clear hg
          obtain ⟨z0, z1, _, _⟩ := intbox_facts bZ
          obtain ⟨l0, l1, _, _⟩ := intbox_facts bL
          go_wp2_with fail
          refine (intAdd_any hX hM (by omega) (by omega)).mono ?_
          rintro ee w4 ⟨g10, p10, n10, c10, rfl, hP, hn10, hg⟩
          replace hX := hX.keep hg; replace hY := hY.keep hg; replace hM := hM.keep hg; replace hL := hL.keep hg; replace bZ := (hg.block _ (lt_of_block bZ) (by simp)).trans bZ; replace bL := (hg.block _ (lt_of_block bL) (by simp)).trans bL; replace hH := grown_none hH hg
          clear hg z0 z1 l0 l1
          go_wp2_with fail
          refine (denominator_any hY hL (by omega) (by omega)).mono ?_
          rintro ee w5 ⟨q11, m11, d11, rfl, hQ, hm11, hg⟩
          replace hX := hX.keep hg; replace hY := hY.keep hg; replace hM := hM.keep hg; replace hL := hL.keep hg; replace hP := hP.keep hg; replace bZ := (hg.block _ (lt_of_block bZ) (by simp)).trans bZ; replace bL := (hg.block _ (lt_of_block bL) (by simp)).trans bL; replace hH := grown_none hH hg
          clear hg
          obtain ⟨z0, z1, fz0, fz1⟩ := intbox_facts bZ
          have hs := set2_grown w5 K (.bool g10) (.slice p10 n10 c10)
          have bN := set2_block bZ g10 p10 n10 c10
          go_wp2_with fail
          have hP2 : X + pn M E = X * (pd E : Int) + pn M E * (Y : Int) := by simp [EE1.out, EE2.out]
          refine ⟨⟨1, g10, p10, n10, c10, q11, m11, d11, _, _, by omega, rfl, rfl, bN, hP.z.other2 bZ hs, hQ.other2 bZ hs, grown_trans hH hs, hid ⟨Nat.mul_pos hY0 HE.out, ?_, by omega, by omega, fun h => absurd h (by omega)⟩⟩, by simp [intOf]⟩
          rw [hP2, if_neg (by omega)]
          exact sum_val hY0 HV.out
        · have EE2 := hid e2
          have HE2 := hid (decide_eq_false e2)
          clear e2
          have hg := World.grownBy_alloc wr (.cells #[.bool g2, .slice p2 n2 c2, .slice q2 m2 d2] 27) none
          have bx := heap_alloc_new wr (.cells #[.bool g2, .slice p2 n2 c2, .slice q2 m2 d2] 27)
          obtain ⟨r0, r1, r2, _, _, _⟩ := ratbox_facts bx
          clear bx
          replace hB := hB.keep hg; replace hF := hF.keep hg; replace hX := hX.keep hg; replace hY := hY.keep hg; replace bZ := (hg.block _ (lt_of_block bZ) (by simp)).trans bZ; replace hH := grown_none hH hg
          clear hg
          go_wp2_with fail
          generalize wr.alloc (.cells #[.bool g2, .slice p2 n2 c2, .slice q2 m2 d2] 27) = wa at *
          refine (parts_any hB hF (by omega) (by omega)).mono ?_
          rintro ee w1 ⟨g6, p6, n6, c6, q6, m6, d6, rfl, hM, hL, hn6, hm6, hg⟩
          replace hB := hB.keep hg; replace hF := hF.keep hg; replace hX := hX.keep hg; replace hY := hY.keep hg; replace bZ := (hg.block _ (lt_of_block bZ) (by simp)).trans bZ; replace hH := grown_none hH hg
          clear hg r0 r1 r2 hB hF
          have hK4 := lt_of_block bZ
          have hu4 := hH.size
          have hg := World.grownBy_alloc w1 (.cells #[.bool g6, .slice p6 n6 c6] 25) none
          have bL := heap_alloc_new w1 (.cells #[.bool g6, .slice p6 n6 c6] 25)
          replace hX := hX.keep hg; replace hY := hY.keep hg; replace hM := hM.keep hg; replace hL := hL.keep hg; replace bZ := (hg.block _ (lt_of_block bZ) (by simp)).trans bZ; replace hH := grown_none hH hg
          clear hg
          go_wp2_with fail
          generalize w1.alloc (.cells #[.bool g6, .slice p6 n6 c6] 25) = wb at *
          generalize w1.heap.size = K4 at *
          refine (isOne_any hL).mono ?_
          rintro ee w2 ⟨rfl, hg⟩
          rw [HE1.out]
          replace hX := hX.keep hg; replace hY := hY.keep hg; replace hM := hM.keep hg; replace hL := hL.keep hg; replace bZ := (hg.block _ (lt_of_block bZ) (by simp)).trans bZ; replace bL := (hg.block _ (lt_of_block bL) (by simp)).trans bL; replace hH := grown_none hH hg
          clear hg
          go_wp2_with fail
          refine (isOne_any hY).mono ?_
          rintro ee w3 ⟨rfl, hg⟩
          rw [HE2.out]
          replace hX := hX.keep hg; replace hY := hY.keep hg; replace hM := hM.keep hg; replace hL := hL.keep hg; replace bZ := (hg.block _ (lt_of_block bZ) (by simp)).trans bZ; replace bL := (hg.block _ (lt_of_block bL) (by simp)).trans bL; replace hH := grown_none hH hg
          clear hg
          go_wp2_with fail
          have hg := grown_drew w3 none
          replace hX := hX.keep hg; replace hY := hY.keep hg; replace hM := hM.keep hg; replace hL := hL.keep hg; replace bZ := (hg.block _ (lt_of_block bZ) (by simp)).trans bZ; replace bL := (hg.block _ (lt_of_block bL) (by simp)).trans bL; replace hH := grown_none hH hg
          clear hg
          obtain ⟨z0, z1, fz0, fz1⟩ := intbox_facts bL
          go_region_with
            (first
              | (go_at_call 153; (with_reducible refine (wholeS_any _ _ _).mono ?_); rintro ee w9a ⟨rfl, hg⟩; replace hX := hX.keep hg; replace hY := hY.keep hg; replace hM := hM.keep hg; replace hL := hL.keep hg; replace z0 := hg.cell z0 (by simp); replace z1 := hg.cell z1 (by simp); replace bZ := (hg.block _ (lt_of_block bZ) (by simp)).trans bZ; replace bL := (hg.block _ (lt_of_block bL) (by simp)).trans bL; replace hH := grown_none hH hg; clear hg)
              | (go_at_call 136; (with_reducible refine (intMul_any hM (IsZ.of_n hY) (by omega) (by omega)).mono ?_); rintro ee w9b ⟨g9, p9, n9, c9, rfl, hM9, hn9, hg⟩; replace hX := hX.keep hg; replace hY := hY.keep hg; replace hM := hM.keep hg; replace hL := hL.keep hg; replace z0 := hg.cell z0 (by simp); replace z1 := hg.cell z1 (by simp); replace bZ := (hg.block _ (lt_of_block bZ) (by simp)).trans bZ; replace bL := (hg.block _ (lt_of_block bL) (by simp)).trans bL; replace hH := grown_none hH hg; clear hg; have ff := intbox_facts bL; obtain ⟨_, _, ff0, ff1⟩ := ff))
          all_goals
            have hs := set2_grown w9b K4 (.bool g9) (.slice p9 n9 c9)
            have bN := set2_block bL g9 p9 n9 c9
            replace hM9 := hM9.z.other2 bL hs
            replace hX := hX.other2 bL hs; replace hY := hY.other2 bL hs; replace hL := hL.other2 bL hs
            replace bZ := (hs.block _ (lt_of_block bZ) (by simp; omega)).trans bZ
            replace hH := grown_sub hH hs (.inr (by omega))
            replace bL := bN
            clear bN hs z0 z1 fz0 fz1 ff0 ff1
            obtain ⟨z0, z1, _, _⟩ := intbox_facts bZ
            obtain ⟨l0, l1, _, _⟩ := intbox_facts bL
            go_wp2_with fail
            generalize (w9b.setCell ⟨K4, 0, none⟩ (.bool g9)).setCell ⟨K4, 1, none⟩ (.slice p9 n9 c9) = w9c at *
            refine (intAdd_any hX hM9 (by omega) (by omega)).mono ?_
            rintro ee w4 ⟨g10, p10, n10, c10, rfl, hP, hn10, hg⟩
            replace hX := hX.keep hg; replace hY := hY.keep hg; replace hL := hL.keep hg; replace hM9 := hM9.keep hg; replace bZ := (hg.block _ (lt_of_block bZ) (by simp)).trans bZ; replace bL := (hg.block _ (lt_of_block bL) (by simp)).trans bL; replace hH := grown_none hH hg
            clear hg z0 z1 l0 l1
            go_wp2_with fail
            refine (denominator_any hY hL (by omega) (by omega)).mono ?_
            rintro ee w5 ⟨q11, m11, d11, rfl, hQ, hm11, hg⟩
            replace hX := hX.keep hg; replace hY := hY.keep hg; replace hL := hL.keep hg; replace hM9 := hM9.keep hg; replace hP := hP.keep hg; replace bZ := (hg.block _ (lt_of_block bZ) (by simp)).trans bZ; replace bL := (hg.block _ (lt_of_block bL) (by simp)).trans bL; replace hH := grown_none hH hg
            clear hg
            obtain ⟨z0, z1, fz0, fz1⟩ := intbox_facts bZ
            have hs := set2_grown w5 K (.bool g10) (.slice p10 n10 c10)
            have bN := set2_block bZ g10 p10 n10 c10
            go_wp2_with fail
            have hP2 : X + pn M E * (Y : Int) = X * (pd E : Int) + pn M E * (Y : Int) := by simp [EE1.out]
            refine ⟨⟨1, g10, p10, n10, c10, q11, m11, d11, _, _, by omega, rfl, rfl, bN, hP.z.other2 bZ hs, hQ.other2 bZ hs, grown_trans hH hs, hid ⟨Nat.mul_pos hY0 HE.out, ?_, by omega, by omega, fun h => absurd h (by omega)⟩⟩, by simp [intOf]⟩
            rw [hP2, if_neg (by omega)]
            exact sum_val hY0 HV.out
      · have EE1 := hid e1
        have HE1 := hid (decide_eq_false e1)
        clear e1
        by_cases e2 : Y = 1
        · have EE2 := hid e2
          have HE2 := hid (decide_eq_true e2)
          clear e2
          have hg := World.grownBy_alloc wr (.cells #[.bool g2, .slice p2 n2 c2, .slice q2 m2 d2] 27) none
          have bx := heap_alloc_new wr (.cells #[.bool g2, .slice p2 n2 c2, .slice q2 m2 d2] 27)
          obtain ⟨r0, r1, r2, _, _, _⟩ := ratbox_facts bx
          clear bx
          replace hB := hB.keep hg; replace hF := hF.keep hg; replace hX := hX.keep hg; replace hY := hY.keep hg; replace bZ := (hg.block _ (lt_of_block bZ) (by simp)).trans bZ; replace hH := grown_none hH hg
          clear hg
          go_wp2_with fail
          generalize wr.alloc (.cells #[.bool g2, .slice p2 n2 c2, .slice q2 m2 d2] 27) = wa at *
          refine (parts_any hB hF (by omega) (by omega)).mono ?_
          rintro ee w1 ⟨g6, p6, n6, c6, q6, m6, d6, rfl, hM, hL, hn6, hm6, hg⟩
          replace hB := hB.keep hg; replace hF := hF.keep hg; replace hX := hX.keep hg; replace hY := hY.keep hg; replace bZ := (hg.block _ (lt_of_block bZ) (by simp)).trans bZ; replace hH := grown_none hH hg
          clear hg r0 r1 r2 hB hF
          have hK4 := lt_of_block bZ
          have hu4 := hH.size
          have hg := World.grownBy_alloc w1 (.cells #[.bool g6, .slice p6 n6 c6] 25) none
          have bL := heap_alloc_new w1 (.cells #[.bool g6, .slice p6 n6 c6] 25)
          replace hX := hX.keep hg; replace hY := hY.keep hg; replace hM := hM.keep hg; replace hL := hL.keep hg; replace bZ := (hg.block _ (lt_of_block bZ) (by simp)).trans bZ; replace hH := grown_none hH hg
          clear hg
          go_wp2_with fail
          generalize w1.alloc (.cells #[.bool g6, .slice p6 n6 c6] 25) = wb at *
          generalize w1.heap.size = K4 at *
          refine (isOne_any hL).mono ?_
          rintro ee w2 ⟨rfl, hg⟩
          rw [HE1.out]
          replace hX := hX.keep hg; replace hY := hY.keep hg; replace hM := hM.keep hg; replace hL := hL.keep hg; replace bZ := (hg.block _ (lt_of_block bZ) (by simp)).trans bZ; replace bL := (hg.block _ (lt_of_block bL) (by simp)).trans bL; replace hH := grown_none hH hg
          clear hg
          go_wp2_with fail
          have hg := grown_drew w2 none
          replace hX := hX.keep hg; replace hY := hY.keep hg; replace hM := hM.keep hg; replace hL := hL.keep hg; replace bZ := (hg.block _ (lt_of_block bZ) (by simp)).trans bZ; replace bL := (hg.block _ (lt_of_block bL) (by simp)).trans bL; replace hH := grown_none hH hg
          clear hg
          obtain ⟨z0, z1, fz0, fz1⟩ := intbox_facts bZ
          go_region_with
            (first
              | (go_at_call 153; (with_reducible refine (wholeS_any _ _ _).mono ?_); rintro ee w7a ⟨rfl, hg⟩; replace hX := hX.keep hg; replace hY := hY.keep hg; replace hM := hM.keep hg; replace hL := hL.keep hg; replace z0 := hg.cell z0 (by simp); replace z1 := hg.cell z1 (by simp); replace bZ := (hg.block _ (lt_of_block bZ) (by simp)).trans bZ; replace bL := (hg.block _ (lt_of_block bL) (by simp)).trans bL; replace hH := grown_none hH hg; clear hg)
              | (go_at_call 136; (with_reducible refine (intMul_any hX (IsZ.of_n hL) (by omega) (by omega)).mono ?_); rintro ee w7b ⟨g7, p7, n7, c7, rfl, hX7, hn7, hg⟩; replace hX := hX.keep hg; replace hY := hY.keep hg; replace hM := hM.keep hg; replace hL := hL.keep hg; replace z0 := hg.cell z0 (by simp); replace z1 := hg.cell z1 (by simp); replace bZ := (hg.block _ (lt_of_block bZ) (by simp)).trans bZ; replace bL := (hg.block _ (lt_of_block bL) (by simp)).trans bL; replace hH := grown_none hH hg; clear hg; have ff := intbox_facts bZ; obtain ⟨_, _, ff0, ff1⟩ := ff))
          all_goals
            have hs := set2_grown w7b K (.bool g7) (.slice p7 n7 c7)
            have bN := set2_block bZ g7 p7 n7 c7
            replace hX7 := hX7.z.other2 bZ hs
            replace hY := hY.other2 bZ hs; replace hM := hM.other2 bZ hs; replace hL := hL.other2 bZ hs
            replace bL := (hs.block _ (lt_of_block bL) (by simp; omega)).trans bL
            replace hH := grown_trans hH hs
            replace bZ := bN
            clear bN hs z0 z1 fz0 fz1 ff0 ff1
            go_wp2_with fail
            generalize (w7b.setCell ⟨K, 0, none⟩ (.bool g7)).setCell ⟨K, 1, none⟩ (.slice p7 n7 c7) = w7c at *
            refine (isOne_any hY).mono ?_
            rintro ee w3 ⟨rfl, hg⟩
            rw [HE2.out]
            replace hY := hY.keep hg; replace hM := hM.keep hg; replace hL := hL.keep hg; replace hX7 := hX7.keep hg; replace bZ := (hg.block _ (lt_of_block bZ) (by simp)).trans bZ; replace bL := (hg.block _ (lt_of_block bL) (by simp)).trans bL; replace hH := grown_none hH hg
            clear hg
            obtain ⟨z0, z1, _, _⟩ := intbox_facts bZ
            obtain ⟨l0, l1, _, _⟩ := intbox_facts bL
            go_wp2_with fail
            refine (intAdd_any hX7 hM (by omega) (by omega)).mono ?_
            rintro ee w4 ⟨g10, p10, n10, c10, rfl, hP, hn10, hg⟩
            replace hY := hY.keep hg; replace hM := hM.keep hg; replace hL := hL.keep hg; replace hX7 := hX7.keep hg; replace bZ := (hg.block _ (lt_of_block bZ) (by simp)).trans bZ; replace bL := (hg.block _ (lt_of_block bL) (by simp)).trans bL; replace hH := grown_none hH hg
            clear hg z0 z1 l0 l1
            go_wp2_with fail
            refine (denominator_any hY hL (by omega) (by omega)).mono ?_
            rintro ee w5 ⟨q11, m11, d11, rfl, hQ, hm11, hg⟩
            replace hY := hY.keep hg; replace hM := hM.keep hg; replace hL := hL.keep hg; replace hX7 := hX7.keep hg; replace hP := hP.keep hg; replace bZ := (hg.block _ (lt_of_block bZ) (by simp)).trans bZ; replace bL := (hg.block _ (lt_of_block bL) (by simp)).trans bL; replace hH := grown_none hH hg
            clear hg
            obtain ⟨z0, z1, fz0, fz1⟩ := intbox_facts bZ
            have hs := set2_grown w5 K (.bool g10) (.slice p10 n10 c10)
            have bN := set2_block bZ g10 p10 n10 c10
            go_wp2_with fail
            have hP2 : X * (pd E : Int) + pn M E = X * (pd E : Int) + pn M E * (Y : Int) := by simp [EE2.out]
            refine ⟨⟨1, g10, p10, n10, c10, q11, m11, d11, _, _, by omega, rfl, rfl, bN, hP.z.other2 bZ hs, hQ.other2 bZ hs, grown_trans hH hs, hid ⟨Nat.mul_pos hY0 HE.out, ?_, by omega, by omega, fun h => absurd h (by omega)⟩⟩, by simp [intOf]⟩
            rw [hP2, if_neg (by omega)]
            exact sum_val hY0 HV.out
        · have EE2 := hid e2
          have HE2 := hid (decide_eq_false e2)
          clear e2
          have hg := World.grownBy_alloc wr (.cells #[.bool g2, .slice p2 n2 c2, .slice q2 m2 d2] 27) none
          have bx := heap_alloc_new wr (.cells #[.bool g2, .slice p2 n2 c2, .slice q2 m2 d2] 27)
          obtain ⟨r0, r1, r2, _, _, _⟩ := ratbox_facts bx
          clear bx
          replace hB := hB.keep hg; replace hF := hF.keep hg; replace hX := hX.keep hg; replace hY := hY.keep hg; replace bZ := (hg.block _ (lt_of_block bZ) (by simp)).trans bZ; replace hH := grown_none hH hg
          clear hg
          go_wp2_with fail
          generalize wr.alloc (.cells #[.bool g2, .slice p2 n2 c2, .slice q2 m2 d2] 27) = wa at *
          refine (parts_any hB hF (by omega) (by omega)).mono ?_
          rintro ee w1 ⟨g6, p6, n6, c6, q6, m6, d6, rfl, hM, hL, hn6, hm6, hg⟩
          replace hB := hB.keep hg; replace hF := hF.keep hg; replace hX := hX.keep hg; replace hY := hY.keep hg; replace bZ := (hg.block _ (lt_of_block bZ) (by simp)).trans bZ; replace hH := grown_none hH hg
          clear hg r0 r1 r2 hB hF
          have hK4 := lt_of_block bZ
          have hu4 := hH.size
          have hg := World.grownBy_alloc w1 (.cells #[.bool g6, .slice p6 n6 c6] 25) none
          have bL := heap_alloc_new w1 (.cells #[.bool g6, .slice p6 n6 c6] 25)
          replace hX := hX.keep hg; replace hY := hY.keep hg; replace hM := hM.keep hg; replace hL := hL.keep hg; replace bZ := (hg.block _ (lt_of_block bZ) (by simp)).trans bZ; replace hH := grown_none hH hg
          clear hg
          go_wp2_with fail
          generalize w1.alloc (.cells #[.bool g6, .slice p6 n6 c6] 25) = wb at *
          generalize w1.heap.size = K4 at *
          refine (isOne_any hL).mono ?_
          rintro ee w2 ⟨rfl, hg⟩
          rw [HE1.out]
          replace hX := hX.keep hg; replace hY := hY.keep hg; replace hM := hM.keep hg; replace hL := hL.keep hg; replace bZ := (hg.block _ (lt_of_block bZ) (by simp)).trans bZ; replace bL := (hg.block _ (lt_of_block bL) (by simp)).trans bL; replace hH := grown_none hH hg
          clear hg
          go_wp2_with fail
          have hg := grown_drew w2 none
          replace hX := hX.keep hg; replace hY := hY.keep hg; replace hM := hM.keep hg; replace hL := hL.keep hg; replace bZ := (hg.block _ (lt_of_block bZ) (by simp)).trans bZ; replace bL := (hg.block _ (lt_of_block bL) (by simp)).trans bL; replace hH := grown_none hH hg
          clear hg
          obtain ⟨z0, z1, fz0, fz1⟩ := intbox_facts bZ
          go_region_with
            (first
              | (go_at_call 153; (with_reducible refine (wholeS_any _ _ _).mono ?_); rintro ee w7a ⟨rfl, hg⟩; replace hX := hX.keep hg; replace hY := hY.keep hg; replace hM := hM.keep hg; replace hL := hL.keep hg; replace z0 := hg.cell z0 (by simp); replace z1 := hg.cell z1 (by simp); replace bZ := (hg.block _ (lt_of_block bZ) (by simp)).trans bZ; replace bL := (hg.block _ (lt_of_block bL) (by simp)).trans bL; replace hH := grown_none hH hg; clear hg)
              | (go_at_call 136; (with_reducible refine (intMul_any hX (IsZ.of_n hL) (by omega) (by omega)).mono ?_); rintro ee w7b ⟨g7, p7, n7, c7, rfl, hX7, hn7, hg⟩; replace hX := hX.keep hg; replace hY := hY.keep hg; replace hM := hM.keep hg; replace hL := hL.keep hg; replace z0 := hg.cell z0 (by simp); replace z1 := hg.cell z1 (by simp); replace bZ := (hg.block _ (lt_of_block bZ) (by simp)).trans bZ; replace bL := (hg.block _ (lt_of_block bL) (by simp)).trans bL; replace hH := grown_none hH hg; clear hg; have ff := intbox_facts bZ; obtain ⟨_, _, ff0, ff1⟩ := ff))
          all_goals
            have hs := set2_grown w7b K (.bool g7) (.slice p7 n7 c7)
            have bN := set2_block bZ g7 p7 n7 c7
            replace hX7 := hX7.z.other2 bZ hs
            replace hY := hY.other2 bZ hs; replace hM := hM.other2 bZ hs; replace hL := hL.other2 bZ hs
            replace bL := (hs.block _ (lt_of_block bL) (by simp; omega)).trans bL
            replace hH := grown_trans hH hs
            replace bZ := bN
            clear bN hs z0 z1 fz0 fz1 ff0 ff1
            go_wp2_with fail
            generalize (w7b.setCell ⟨K, 0, none⟩ (.bool g7)).setCell ⟨K, 1, none⟩ (.slice p7 n7 c7) = w7c at *
            refine (isOne_any hY).mono ?_
            rintro ee w3 ⟨rfl, hg⟩
            rw [HE2.out]
            replace hY := hY.keep hg; replace hM := hM.keep hg; replace hL := hL.keep hg; replace hX7 := hX7.keep hg; replace bZ := (hg.block _ (lt_of_block bZ) (by simp)).trans bZ; replace bL := (hg.block _ (lt_of_block bL) (by simp)).trans bL; replace hH := grown_none hH hg
            clear hg
            go_wp2_with fail
            have hg := grown_drew w3 none
            replace hY := hY.keep hg; replace hM := hM.keep hg; replace hL := hL.keep hg; replace hX7 := hX7.keep hg; replace bZ := (hg.block _ (lt_of_block bZ) (by simp)).trans bZ; replace bL := (hg.block _ (lt_of_block bL) (by simp)).trans bL; replace hH := grown_none hH hg
            clear hg
            obtain ⟨z0, z1, fz0, fz1⟩ := intbox_facts bL
            go_region_with
              (first
                | (go_at_call 153; (with_reducible refine (wholeS_any _ _ _).mono ?_); rintro ee w9a ⟨rfl, hg⟩; replace hY := hY.keep hg; replace hM := hM.keep hg; replace hL := hL.keep hg; replace hX7 := hX7.keep hg; replace z0 := hg.cell z0 (by simp); replace z1 := hg.cell z1 (by simp); replace bZ := (hg.block _ (lt_of_block bZ) (by simp)).trans bZ; replace bL := (hg.block _ (lt_of_block bL) (by simp)).trans bL; replace hH := grown_none hH hg; clear hg)
                | (go_at_call 136; (with_reducible refine (intMul_any hM (IsZ.of_n hY) (by omega) (by omega)).mono ?_); rintro ee w9b ⟨g9, p9, n9, c9, rfl, hM9, hn9, hg⟩; replace hY := hY.keep hg; replace hM := hM.keep hg; replace hL := hL.keep hg; replace hX7 := hX7.keep hg; replace z0 := hg.cell z0 (by simp); replace z1 := hg.cell z1 (by simp); replace bZ := (hg.block _ (lt_of_block bZ) (by simp)).trans bZ; replace bL := (hg.block _ (lt_of_block bL) (by simp)).trans bL; replace hH := grown_none hH hg; clear hg; have ff := intbox_facts bL; obtain ⟨_, _, ff0, ff1⟩ := ff))
            all_goals
              have hs := set2_grown w9b K4 (.bool g9) (.slice p9 n9 c9)
              have bN := set2_block bL g9 p9 n9 c9
              replace hM9 := hM9.z.other2 bL hs
              replace hY := hY.other2 bL hs; replace hL := hL.other2 bL hs; replace hX7 := hX7.other2 bL hs
              replace bZ := (hs.block _ (lt_of_block bZ) (by simp; omega)).trans bZ
              replace hH := grown_sub hH hs (.inr (by omega))
              replace bL := bN
              clear bN hs z0 z1 fz0 fz1 ff0 ff1
              obtain ⟨z0, z1, _, _⟩ := intbox_facts bZ
              obtain ⟨l0, l1, _, _⟩ := intbox_facts bL
              go_wp2_with fail
              generalize (w9b.setCell ⟨K4, 0, none⟩ (.bool g9)).setCell ⟨K4, 1, none⟩ (.slice p9 n9 c9) = w9c at *
              refine (intAdd_any hX7 hM9 (by omega) (by omega)).mono ?_
              rintro ee w4 ⟨g10, p10, n10, c10, rfl, hP, hn10, hg⟩
              replace hY := hY.keep hg; replace hL := hL.keep hg; replace hX7 := hX7.keep hg; replace hM9 := hM9.keep hg; replace bZ := (hg.block _ (lt_of_block bZ) (by simp)).trans bZ; replace bL := (hg.block _ (lt_of_block bL) (by simp)).trans bL; replace hH := grown_none hH hg
              clear hg z0 z1 l0 l1
              go_wp2_with fail
              refine (denominator_any hY hL (by omega) (by omega)).mono ?_
              rintro ee w5 ⟨q11, m11, d11, rfl, hQ, hm11, hg⟩
              replace hY := hY.keep hg; replace hL := hL.keep hg; replace hX7 := hX7.keep hg; replace hM9 := hM9.keep hg; replace hP := hP.keep hg; replace bZ := (hg.block _ (lt_of_block bZ) (by simp)).trans bZ; replace bL := (hg.block _ (lt_of_block bL) (by simp)).trans bL; replace hH := grown_none hH hg
              clear hg
              obtain ⟨z0, z1, fz0, fz1⟩ := intbox_facts bZ
              have hs := set2_grown w5 K (.bool g10) (.slice p10 n10 c10)
              have bN := set2_block bZ g10 p10 n10 c10
              go_wp2_with fail
              have hP2 : X * (pd E : Int) + pn M E * (Y : Int) = X * (pd E : Int) + pn M E * (Y : Int) := by simp []
              refine ⟨⟨1, g10, p10, n10, c10, q11, m11, d11, _, _, by omega, rfl, rfl, bN, hP.z.other2 bZ hs, hQ.other2 bZ hs, grown_trans hH hs, hid ⟨Nat.mul_pos hY0 HE.out, ?_, by omega, by omega, fun h => absurd h (by omega)⟩⟩, by simp [intOf]⟩
              rw [hP2, if_neg (by omega)]
              exact sum_val hY0 HV.out
    · obtain rfl : k = 1 := by omega
      obtain ⟨hY0, hV, hn5, hm5, -⟩ := HI.out
      rw [if_neg (by omega)] at hV
      have HV := hid hV
      clear hV HI
      replace bx1 := (hgr.block _ (lt_of_block bx1) (by simp; omega)).trans bx1
      replace hW := grown_new hW hgr (fun g e => by cases e; omega)
      clear hgr
      obtain ⟨z0, z1, fz0, fz1⟩ := intbox_facts bZ
      go_wp2_with fail
      refine (lowest_v (B := 4 * S + 20) (HT.out.keep hW) hX hY hY0 (by omega) (by omega) (by omega)).mono ?_
      rintro ee w9 ⟨g6, p6, n6, c6, q6, m6, d6, rfl, hZ, hn6, hm6, hg⟩
      replace bx1 := (hg.block _ (lt_of_block bx1) (by simp)).trans bx1
      replace hW := grown_trans hW hg
      obtain ⟨l0, l1, l2, f0, f1, f2⟩ := ratbox_facts bx1
      go_wp2_with fail
      exact bodyPost_ret (v := .agg #[.bool g6, .slice p6 n6 c6, .slice q6 m6 d6]) (by simp [results, Tryz.results133, go_sem, l0, l1, l2, f0, f1, f2]) rfl
        (VPost.close bx1 (by omega) hW (hZ.congr HV.out) hn6 hm6)
end Go.Proofs.YtgbfjneoieadmaaGreatDoor
