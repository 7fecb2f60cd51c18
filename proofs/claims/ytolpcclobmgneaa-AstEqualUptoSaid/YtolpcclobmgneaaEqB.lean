/-
  Contracts of the equality of numbers, in the program and in the reference.
-/
import Derived.Test.YtolpcclobmgneaaEqA
import Derived.Test.YtolpcclobmgneaaEqM
set_option linter.unusedVariables false
set_option linter.unusedSimpArgs false
namespace Go.Proofs.Ytolpcclobmgneaa
open Go.RowKit _root_.Nm
theorem box3c {w : World} {G : Nat} {x y z : Value} {T : TypeId} (hb : w.heap[G]? = some (.cells #[x, y, z] T (0, 0))) : w.cell? ⟨G, 0, none⟩ = some x ∧ w.cell? ⟨G, 1, none⟩ = some y ∧ w.cell? ⟨G, 2, none⟩ = some z := by
  have k0 := cell_of_row w G 0 _ _ _ hb
  have k1 := cell_of_row w G 1 _ _ _ hb
  have k2 := cell_of_row w G 2 _ _ _ hb
  simp at k0 k1 k2
  exact ⟨k0, k1, k2⟩
set_option maxHeartbeats 8000000 in
set_option maxRecDepth 100000 in
theorem equalRat_any (g g' : Bool) (p q p' q' : Option Addr) (n c m d n' c' m' d' : Nat) (xs ys xs' ys' : List Nat) (b : Bool) (hb : b = true ↔ g = g' ∧ xs = xs' ∧ ys = ys') (w : World) (h1 : IRd w .u16 p n c xs) (h2 : IRd w .u16 q m d ys) (h1' : IRd w .u16 p' n' c' xs') (h2' : IRd w .u16 q' m' d' ys') :
    Calls Try.prog 11 #[.agg #[.bool g, .slice p n c, .slice q m d], .agg #[.bool g', .slice p' n' c', .slice q' m' d']] w fun e w' => e = .returned (.bool b) ∧ w.grownBy w' none := by
  obtain ⟨b1, hb1⟩ : ∃ b1 : Bool, b1 = true ↔ xs = xs' := ⟨decide (xs = xs'), by simp⟩
  obtain ⟨b2, hb2⟩ : ∃ b2 : Bool, b2 = true ↔ ys = ys' := ⟨decide (ys = ys'), by simp⟩
  have hbb : b = (decide (g = g') && (b1 && b2)) := by
    rw [Bool.eq_iff_iff, hb]
    simp [hb1, hb2]
  subst hbb
  obtain ⟨k0, k1, k2⟩ := box3c (blk1 w (.cells #[.bool g, .slice p n c, .slice q m d] 27 (0, 0)) (.cells #[.bool g', .slice p' n' c', .slice q' m' d'] 27 (0, 0)))
  have bx2 := blk0 (w.alloc (.cells #[.bool g, .slice p n c, .slice q m d] 27 (0, 0))) (.cells #[.bool g', .slice p' n' c', .slice q' m' d'] 27 (0, 0))
  rw [show (w.alloc (.cells #[.bool g, .slice p n c, .slice q m d] 27 (0, 0))).heap.size = w.heap.size + 1 by simp] at bx2
  obtain ⟨l0, l1, l2⟩ := box3c bx2
  have hW := grown_trans (World.grownBy_alloc w (.cells #[.bool g, .slice p n c, .slice q m d] 27 (0, 0)) none) (World.grownBy_alloc _ (.cells #[.bool g', .slice p' n' c', .slice q' m' d'] 27 (0, 0)) none)
  have HE1 := hid fun w' (hg : w.grownBy w' none) => eqNat_any p p' n c n' c' xs xs' b1 hb1 w' (h1.keep hg) (h1'.keep hg)
  have HE2 := hid fun w' (hg : w.grownBy w' none) => eqNat_any q q' m d m' d' ys ys' b2 hb2 w' (h2.keep hg) (h2'.keep hg)
  clear h1 h2 h1' h2' hb hb1 hb2 bx2
  cases g <;> cases g' <;> cases b1
  all_goals
    go_enter Try.func11, Try.ntmps11
    go_upto_region 1 with fail
    generalize ((w.alloc _).alloc _) = w0 at *
    go_wp2_with (first
      | (go_at_call 16; refine (HE1.out _ hW).mono ?_; rintro e w1 ⟨rfl, hg⟩; replace hW := grown_trans hW hg; replace k0 := hg.cell k0 (by simp); replace k1 := hg.cell k1 (by simp); replace k2 := hg.cell k2 (by simp); replace l0 := hg.cell l0 (by simp); replace l1 := hg.cell l1 (by simp); replace l2 := hg.cell l2 (by simp); clear HE1 hg)
      | (go_at_call 16; refine (HE2.out _ hW).mono ?_; rintro e w1 ⟨rfl, hg⟩; replace hW := grown_trans hW hg; replace k0 := hg.cell k0 (by simp); replace k1 := hg.cell k1 (by simp); replace k2 := hg.cell k2 (by simp); replace l0 := hg.cell l0 (by simp); replace l1 := hg.cell l1 (by simp); replace l2 := hg.cell l2 (by simp); clear HE2 hg))
    go_ret
    exact ⟨by simp, hW⟩
set_option maxHeartbeats 8000000 in
set_option maxRecDepth 100000 in
theorem sameRat_any (g g' : Bool) (p q p' q' : Option Addr) (n c m d n' c' m' d' : Nat) (xs ys xs' ys' : List Nat) (b : Bool) (hb : b = true ↔ g = g' ∧ xs = xs' ∧ ys = ys') (w : World) (h1 : IRd w .u16 p n c xs) (h2 : IRd w .u16 q m d ys) (h1' : IRd w .u16 p' n' c' xs') (h2' : IRd w .u16 q' m' d' ys') :
    Calls Try.prog 10 #[.agg #[.bool g, .slice p n c, .slice q m d], .agg #[.bool g', .slice p' n' c', .slice q' m' d']] w fun e w' => e = .returned (.bool b) ∧ w.grownBy w' none := by
  obtain ⟨b1, hb1⟩ : ∃ b1 : Bool, b1 = true ↔ xs = xs' := ⟨decide (xs = xs'), by simp⟩
  obtain ⟨b2, hb2⟩ : ∃ b2 : Bool, b2 = true ↔ ys = ys' := ⟨decide (ys = ys'), by simp⟩
  have hbb : b = (decide (g = g') && (b1 && b2)) := by
    rw [Bool.eq_iff_iff, hb]
    simp [hb1, hb2]
  subst hbb
  obtain ⟨k0, k1, k2⟩ := box3c (blk1 w (.cells #[.bool g, .slice p n c, .slice q m d] 27 (0, 0)) (.cells #[.bool g', .slice p' n' c', .slice q' m' d'] 27 (0, 0)))
  have bx2 := blk0 (w.alloc (.cells #[.bool g, .slice p n c, .slice q m d] 27 (0, 0))) (.cells #[.bool g', .slice p' n' c', .slice q' m' d'] 27 (0, 0))
  rw [show (w.alloc (.cells #[.bool g, .slice p n c, .slice q m d] 27 (0, 0))).heap.size = w.heap.size + 1 by simp] at bx2
  obtain ⟨l0, l1, l2⟩ := box3c bx2
  have hW := grown_trans (World.grownBy_alloc w (.cells #[.bool g, .slice p n c, .slice q m d] 27 (0, 0)) none) (World.grownBy_alloc _ (.cells #[.bool g', .slice p' n' c', .slice q' m' d'] 27 (0, 0)) none)
  have HE1 := hid fun w' (hg : w.grownBy w' none) => sameNat_any p p' n c n' c' xs xs' b1 hb1 w' (h1.keep hg) (h1'.keep hg)
  have HE2 := hid fun w' (hg : w.grownBy w' none) => sameNat_any q q' m d m' d' ys ys' b2 hb2 w' (h2.keep hg) (h2'.keep hg)
  clear h1 h2 h1' h2' hb hb1 hb2 bx2
  cases g <;> cases g' <;> cases b1
  all_goals
    go_enter Try.func10, Try.ntmps10
    go_upto_region 1 with fail
    generalize ((w.alloc _).alloc _) = w0 at *
    go_wp2_with (first
      | (go_at_call 15; refine (HE1.out _ hW).mono ?_; rintro e w1 ⟨rfl, hg⟩; replace hW := grown_trans hW hg; replace k0 := hg.cell k0 (by simp); replace k1 := hg.cell k1 (by simp); replace k2 := hg.cell k2 (by simp); replace l0 := hg.cell l0 (by simp); replace l1 := hg.cell l1 (by simp); replace l2 := hg.cell l2 (by simp); clear HE1 hg)
      | (go_at_call 15; refine (HE2.out _ hW).mono ?_; rintro e w1 ⟨rfl, hg⟩; replace hW := grown_trans hW hg; replace k0 := hg.cell k0 (by simp); replace k1 := hg.cell k1 (by simp); replace k2 := hg.cell k2 (by simp); replace l0 := hg.cell l0 (by simp); replace l1 := hg.cell l1 (by simp); replace l2 := hg.cell l2 (by simp); clear HE2 hg))
    go_ret
    exact ⟨by simp, hW⟩
end Go.Proofs.Ytolpcclobmgneaa
