import Derived.Test.YtcmbdnkfihanmaaIntD
import Derived.Test.YtcmbdnkfihanmaaAliveA
import Derived.Deep.RegionHeld3
set_option linter.unusedVariables false
set_option linter.unusedSimpArgs false
namespace Go.Proofs.Ytcmbdnkfihanmaa
open Go.RowKit Nm

theorem natDivMod_smallv {w : World} {p q : Option Addr} {n m c d N M : Nat} (hA : IsC w p n c N) (hB : IsC w q m d M) (hN : N < W64) (hle : M ≤ N) (hM : 0 < M) :
    Calls Try.prog 65 #[.slice p n c, .slice q m d] w (DmPost w N M) := by
  have hcn := Can_dg (B := 65536) (by omega) N
  have hcm := Can_dg (B := 65536) (by omega) M
  have t1 : ∀ K, trimR (dg 65536 K) = dg 65536 K := fun K => by rw [trimR_dg (by omega) (Can_dg (by omega) K).1, V_dg (by omega)]
  have := natDivMod_small p q n m c d _ _ w hA hB hcn.1 hcm.1 (by rw [t1]; exact dg_len4 hN) (by
    rw [t1, t1]
    refine Nat.le_of_not_lt fun h => ?_
    have := Can.lt_of_length (by omega) hcn.1 hcm h
    rw [V_dg (by omega), V_dg (by omega)] at this; omega) (by rw [V_dg (by omega)]; exact hM)
  rwa [V_dg (by omega), V_dg (by omega)] at this

theorem lit_IsI (w : World) (g : Bool) (x : Nat) (h0 : 0 < x) (hx : x < 65536) (v : Int) (hv : v = (x : Int)) : IsI (w.alloc (.cells #[.int .u16 v] 54)) g (some ⟨w.heap.size, 0, none⟩) 1 1 (sg g x) := by
  refine ⟨?_, ?_⟩
  · rw [sg_abs]
    have := one_rd w 54 .u16 v x hv
    unfold IsC; rw [dg_small x h0 hx]; exact this
  · have := sg_neg g x
    rw [decide_eq_true h0] at this
    simpa using this.symm

set_option maxHeartbeats 4000000 in
theorem alive2 (w : World) : Calls Try.prog 11 #[] w fun e w' => e = .returned (.bool true) ∧ w.grownBy w' none := by
  have O7 := hid (fun W => intOf_neg (z := -7) (N := 7) rfl (by omega) (by decide) W)
  have O2 := hid (fun W => intOf_pos (z := 2) (N := 2) rfl (by decide) W)
  have O3 := hid (fun W => intOf_neg (z := -3) (N := 3) rfl (by omega) (by decide) W)
  have O4 := hid (fun W => intOf_neg (z := -2) (N := 2) rfl (by omega) (by decide) W)
  unfold IPost at O7 O2 O3 O4
  go_enter Try.func11, Try.ntmps11
  go_wp2_with fail
  refine (O7.out _).mono ?_
  rintro e w1 ⟨g1, p1, n1, c1, rfl, h1, l1, hW⟩
  go_wp2_with fail
  refine (O2.out _).mono ?_
  rintro e w2 ⟨g2, p2, n2, c2, rfl, h2, l2, hg⟩
  replace h1 := h1.keep hg; replace hW := grown_trans hW hg; clear hg
  have hgb1 : g1 = true := by rw [h1.2]; rfl
  have hgb2 : g2 = false := by rw [h2.2]; rfl
  subst hgb1; subst hgb2
  have e1 : qZ true false 7 2 = -4 := by decide
  have e2 : ((rZ true 7 2 : Nat) : Int) = 1 := by decide
  have HD := hid (intDivMod_any (ga := true) (gb := false) (N := 7) (M := 2) h1.z.1 h2.z.1 (by omega) (by omega) (by omega) (fun W hgW => natDivMod_smallv (h1.keep hgW).1 (h2.keep hgW).1 (by decide) (by decide) (by decide)))
  unfold DmI at HD
  rw [e1, e2] at HD
  clear e1 e2
  go_wp2_with fail
  refine HD.out.mono ?_
  rintro e w3 ⟨g3, p3, n3, c3, g4, p4, n4, c4, rfl, h3, h4, l3, l4, hg⟩
  replace hW := grown_trans hW hg; clear hg HD
  have hz := hW.size
  have L1 := lit_IsI ((w3.alloc (.cells #[.bool g3, .slice p3 n3 c3] 25)).alloc (.cells #[.bool g4, .slice p4 n4 c4] 25)) true 4 (by decide) (by decide) 4 rfl
  rw [show ((w3.alloc (.cells #[.bool g3, .slice p3 n3 c3] 25)).alloc (.cells #[.bool g4, .slice p4 n4 c4] 25)).heap.size = w3.heap.size + 1 + 1 from by simp] at L1
  have hgA := grown_trans (grown_trans (World.grownBy_alloc w3 (.cells #[.bool g3, .slice p3 n3 c3] 25) none) (World.grownBy_alloc _ (.cells #[.bool g4, .slice p4 n4 c4] 25) none)) (World.grownBy_alloc _ (.cells #[.int .u16 4] 54) none)
  go_wp2_with fail
  refine (same2_any (h3.keep hgA) L1 (by decide)).mono ?_
  rintro e w5 ⟨rfl, hg⟩
  have hc0 : w5.cell? ⟨w3.heap.size + 1, 0, none⟩ = some (.bool g4) := by
    rw [gcell hg (w3.heap.size + 1) 0 (by simp)]; simp [go_sem, World.cell?_alloc_past]
  have hc1 : w5.cell? ⟨w3.heap.size + 1, 1, none⟩ = some (.slice p4 n4 c4) := by
    rw [gcell hg (w3.heap.size + 1) 1 (by simp)]; simp [go_sem, World.cell?_alloc_past]
  replace hg := grown_trans hgA hg
  have hz5 := hg.size
  replace h4 := h4.keep hg
  replace hW := grown_trans hW hg
  clear hg L1 hgA h3
  go_wp2_with fail
  have L2 := lit_IsI w5 false 1 (by decide) (by decide) 1 rfl
  have hgA := World.grownBy_alloc w5 (.cells #[.int .u16 1] 54) none
  refine (same2_any (h4.keep hgA) L2 (by decide)).mono ?_
  rintro e w6 ⟨rfl, hg⟩
  replace hW := grown_trans hW (grown_trans hgA hg)
  clear hg hgA L2
  go_wp2_with fail
  refine (O3.out _).mono ?_
  rintro e w7 ⟨g5, p5, n5, c5, rfl, h5, l5, hg⟩
  replace hW := grown_trans hW hg; clear hg
  go_wp2_with fail
  refine (O4.out _).mono ?_
  rintro e w8 ⟨g6, p6, n6, c6, rfl, h6, l6, hg⟩
  replace hW := grown_trans hW hg
  replace h5 := h5.keep hg
  clear hg
  go_wp2_with fail
  refine (intCmp_any h5.z h6.z (by omega) (by omega)).mono ?_
  rintro e w9 ⟨rfl, hg⟩
  replace hW := grown_trans hW hg
  rw [show cmpI (-3) (-2) = -1 from by decide]
  go_wp2_with fail
  go_ret
  exact ⟨rfl, hW⟩
end Go.Proofs.Ytcmbdnkfihanmaa
