/-
  Contracts of the reference of integers: of, Norm, Neg, Mul, Add, Sub.
-/
import Derived.Test.YtiaonbofkgkdhaaGreatDoorIntN
import Derived.Test.YtiaonbofkgkdhaaGreatDoorIntM
import Derived.Test.YtiaonbofkgkdhaaGreatDoorRefMul
import Derived.Test.YtiaonbofkgkdhaaGreatDoorRefAdd
import Derived.Test.YtiaonbofkgkdhaaGreatDoorRefSub
import Derived.Deep.RegionHeld3
set_option linter.unusedVariables false
set_option linter.unusedSimpArgs false
namespace Go.Proofs.YtiaonbofkgkdhaaGreatDoor
open Go.RowKit Nm

theorem IsC.pos_len {w : World} {p : Option Addr} {n c N : Nat} (hA : IsC w p n c N) : decide (0 < n) = decide (0 < N) := by
  have hn : n = 0 ↔ N = 0 := by
    rw [← hA.len]
    constructor
    · intro h
      have h2 : dg 65536 N = [] := List.eq_nil_of_length_eq_zero h
      have := V_dg (B := 65536) (by omega) N
      rw [h2] at this; exact this.symm
    · rintro rfl; rfl
  by_cases h : 0 < n
  · rw [decide_eq_true h, decide_eq_true (by omega)]
  · rw [decide_eq_false h, decide_eq_false (by omega)]

theorem IsI.mk {w : World} {p : Option Addr} {n c N : Nat} (hA : IsC w p n c N) (g : Bool) : IsI w (g && decide (0 < n)) p n c (sg g N) :=
  ⟨by rw [sg_abs]; exact hA, by rw [hA.pos_len]; exact (sg_neg g N).symm⟩

set_option maxHeartbeats 2000000 in
theorem rOf_any {w : World} {p : Option Addr} {n c N : Nat} (g : Bool) (hA : IsN w p n c N) (hn : n ≤ 4000000000) :
    Calls Tryz.prog 135 #[.bool g, .slice p n c] w (IPost w (sg g N) n) := by
  have hg1 := World.grownBy_alloc w (.cells #[.bool false, .slice none 0 0] 26) none
  cases g
  all_goals
    go_enter Tryz.func135, Tryz.ntmps135
    go_wp2_with fail
    refine (refNorm_n (hA.keep hg1) hn).mono ?_
    rintro e w1 ⟨p1, n1, c1, rfl, h1, hn1, hg⟩
    have hc1 := gcell hg
    have hf1 := gfree hg
    have hz1 := hg.size
    simp at hz1
  · have FIN := hid (IsI.mk h1 false)
    go_wp2_with fail
    exact bodyPost_ret (v := .agg #[.bool false, .slice p1 n1 c1]) (by simp [results, Tryz.results135, go_sem, hc1]) rfl (IPost.close hg1 (heap_alloc_new w _) (by omega) hg FIN.out hn1)
  · have FIN := hid (IsI.mk h1 true)
    go_wp2_with fail
    exact bodyPost_ret (v := .agg #[.bool (decide (0 < n1)), .slice p1 n1 c1]) (by simp [results, Tryz.results135, go_sem, hc1]) rfl (IPost.close hg1 (heap_alloc_new w _) (by omega) hg (by simpa using FIN.out) hn1)

set_option maxHeartbeats 2000000 in
theorem rNorm_any {w : World} {p : Option Addr} {n c : Nat} {g : Bool} {Z : Int} (hA : IsZ w g p n c Z) (hn : n ≤ 400000000) :
    Calls Tryz.prog 91 #[.agg #[.bool g, .slice p n c]] w (IPost w Z n) := by
  have hg2 := grown_trans (World.grownBy_alloc w (.cells #[.bool g, .slice p n c] 26) none) (World.grownBy_alloc _ (.cells #[.bool false, .slice none 0 0] 26) none)
  go_enter Tryz.func91, Tryz.ntmps91
  go_wp2_with fail
  refine (rOf_any g (hA.1.keep hg2) (by omega)).mono ?_
  rintro e w1 ⟨g1, p1, n1, c1, rfl, h1, hn1, hg⟩
  rw [sg_z hA] at h1
  have hc1 := gcell hg
  have hf1 := gfree hg
  have hz1 := hg.size
  simp at hz1
  go_wp2_with fail
  exact bodyPost_ret (v := .agg #[.bool g1, .slice p1 n1 c1]) (by simp [results, Tryz.results91, go_sem, hc1]) rfl (IPost.close hg2 (second w _ _) (by omega) hg h1 hn1)


theorem mul_sgn {w : World} {ga gb : Bool} {p q : Option Addr} {n c m d : Nat} {X Y : Int} (hA : IsZ w ga p n c X) (hB : IsZ w gb q m d Y) : sg (ga != gb) (X.natAbs * Y.natAbs) = X * Y := by
  have h1 := sg_z hA
  have h2 := sg_z hB
  generalize X.natAbs = N at *
  generalize Y.natAbs = M at *
  subst h1; subst h2
  cases ga <;> cases gb <;> simp [sg, Int.neg_mul, Int.mul_neg]



end Go.Proofs.YtiaonbofkgkdhaaGreatDoor
