/-
  Contracts of the reference of integers: of, Norm, Neg, Mul, Add, Sub.
-/
import Derived.Test.YthkgldpcgmnaiaaDoorIntN
import Derived.Test.YthkgldpcgmnaiaaDoorIntM
import Derived.Test.YthkgldpcgmnaiaaDoorRefMul
import Derived.Test.YthkgldpcgmnaiaaDoorRefAdd
import Derived.Test.YthkgldpcgmnaiaaDoorRefSub
import Derived.Deep.RegionHeld3
set_option linter.unusedVariables false
set_option linter.unusedSimpArgs false
namespace Go.Proofs.YthkgldpcgmnaiaaDoor
open Go.RowKit Nm

theorem IsC.pos_len {w : World} {p : Option Addr} {n c N : Nat} (hA : IsC w p n c N) : decide (0 < n) = decide (0 < N) := by
  have hn : n = 0 ↔ N = 0 := by
    rw [← hA.len]
    constructor
    · intro h
      have h2 : dg 65536 N = [] := List.eq_nil_of_length_eq_zero h
      have := V_dg (B := 65536) (by omega) N
      rw [h2] at this; exact this.symm
    · rintro rfl; rfl
  by_cases h : 0 < n
  · rw [decide_eq_true h, decide_eq_true (by omega)]
  · rw [decide_eq_false h, decide_eq_false (by omega)]

theorem IsI.mk {w : World} {p : Option Addr} {n c N : Nat} (hA : IsC w p n c N) (g : Bool) : IsI w (g && decide (0 < n)) p n c (sg g N) :=
  ⟨by rw [sg_abs]; exact hA, by rw [hA.pos_len]; exact (sg_neg g N).symm⟩

set_option maxHeartbeats 2000000 in
theorem rOf_any {w : World} {p : Option Addr} {n c N : Nat} (g : Bool) (hA : IsN w p n c N) (hn : n ≤ 4000000) :
    Calls Tryd.prog 55 #[.bool g, .slice p n c] w (IPost w (sg g N) n) := by
  have hg1 := World.grownBy_alloc w (.cells #[.bool false, .slice none 0 0] 25) none
  cases g
  all_goals
    go_enter Tryd.func55, Tryd.ntmps55
    go_wp2_with fail
    refine (refNorm_n (hA.keep hg1) hn).mono ?_
    rintro e w1 ⟨p1, n1, c1, rfl, h1, hn1, hg⟩
    have hc1 := gcell hg
    have hf1 := gfree hg
    have hz1 := hg.size
    simp at hz1
  · have FIN := hid (IsI.mk h1 false)
    go_wp2_with fail
    exact bodyPost_ret (v := .agg #[.bool false, .slice p1 n1 c1]) (by simp [results, Tryd.results55, go_sem, hc1]) rfl (IPost.close hg1 (heap_alloc_new w _) (by omega) hg FIN.out hn1)
  · have FIN := hid (IsI.mk h1 true)
    go_wp2_with fail
    exact bodyPost_ret (v := .agg #[.bool (decide (0 < n1)), .slice p1 n1 c1]) (by simp [results, Tryd.results55, go_sem, hc1]) rfl (IPost.close hg1 (heap_alloc_new w _) (by omega) hg (by simpa using FIN.out) hn1)

set_option maxHeartbeats 2000000 in
theorem rNorm_any {w : World} {p : Option Addr} {n c : Nat} {g : Bool} {Z : Int} (hA : IsZ w g p n c Z) (hn : n ≤ 400000) :
    Calls Tryd.prog 53 #[.agg #[.bool g, .slice p n c]] w (IPost w Z n) := by
  have hg2 := grown_trans (World.grownBy_alloc w (.cells #[.bool g, .slice p n c] 25) none) (World.grownBy_alloc _ (.cells #[.bool false, .slice none 0 0] 25) none)
  go_enter Tryd.func53, Tryd.ntmps53
  go_wp2_with fail
  refine (rOf_any g (hA.1.keep hg2) (by omega)).mono ?_
  rintro e w1 ⟨g1, p1, n1, c1, rfl, h1, hn1, hg⟩
  rw [sg_z hA] at h1
  have hc1 := gcell hg
  have hf1 := gfree hg
  have hz1 := hg.size
  simp at hz1
  go_wp2_with fail
  exact bodyPost_ret (v := .agg #[.bool g1, .slice p1 n1 c1]) (by simp [results, Tryd.results53, go_sem, hc1]) rfl (IPost.close hg2 (second w _ _) (by omega) hg h1 hn1)

set_option maxHeartbeats 2000000 in
theorem rNeg_any {w : World} {p : Option Addr} {n c : Nat} {g : Bool} {Z : Int} (hA : IsZ w g p n c Z) (hn : n ≤ 400000) :
    Calls Tryd.prog 37 #[.agg #[.bool g, .slice p n c]] w (IPost w (-Z) n) := by
  have hg2 := grown_trans (World.grownBy_alloc w (.cells #[.bool g, .slice p n c] 25) none) (World.grownBy_alloc _ (.cells #[.bool false, .slice none 0 0] 25) none)
  go_enter Tryd.func37, Tryd.ntmps37
  go_wp2_with fail
  refine (rOf_any (!g) (hA.1.keep hg2) (by omega)).mono ?_
  rintro e w1 ⟨g1, p1, n1, c1, rfl, h1, hn1, hg⟩
  rw [sg_not, sg_z hA] at h1
  have hc1 := gcell hg
  have hf1 := gfree hg
  have hz1 := hg.size
  simp at hz1
  go_wp2_with fail
  exact bodyPost_ret (v := .agg #[.bool g1, .slice p1 n1 c1]) (by simp [results, Tryd.results37, go_sem, hc1]) rfl (IPost.close hg2 (second w _ _) (by omega) hg h1 hn1)

theorem mul_sgn {w : World} {ga gb : Bool} {p q : Option Addr} {n c m d : Nat} {X Y : Int} (hA : IsZ w ga p n c X) (hB : IsZ w gb q m d Y) : sg (ga != gb) (X.natAbs * Y.natAbs) = X * Y := by
  have h1 := sg_z hA
  have h2 := sg_z hB
  generalize X.natAbs = N at *
  generalize Y.natAbs = M at *
  subst h1; subst h2
  cases ga <;> cases gb <;> simp [sg, Int.neg_mul, Int.mul_neg]

set_option maxHeartbeats 4000000 in
theorem rMul_any {w : World} {p q : Option Addr} {n c m d : Nat} {ga gb : Bool} {X Y : Int} (hA : IsZ w ga p n c X) (hB : IsZ w gb q m d Y) (hn : n ≤ 400000) (hm : m ≤ 400000) :
    Calls Tryd.prog 31 #[.agg #[.bool ga, .slice p n c], .agg #[.bool gb, .slice q m d]] w (IPost w (X * Y) (n + m + 1)) := by
  have hg3 := grown_trans (grown_trans (World.grownBy_alloc w (.cells #[.bool ga, .slice p n c] 25) none) (World.grownBy_alloc _ (.cells #[.bool gb, .slice q m d] 25) none)) (World.grownBy_alloc _ (.cells #[.bool false, .slice none 0 0] 25) none)
  have HM := hid (fun W (h : w.grownBy W none) => refMul_n (hA.1.keep h) (hB.1.keep h) (by omega) (by omega))
  have HSG := hid (mul_sgn hA hB)
  go_enter Tryd.func31, Tryd.ntmps31
  go_wp2_with fail
  go_region_held3 (fun w' => w'.cell? ⟨w.heap.size, 0, none⟩ = some (.bool ga) ∧ w'.cell? ⟨w.heap.size, 1, none⟩ = some (.slice p n c) ∧ w'.cell? ⟨w.heap.size + 1, 0, none⟩ = some (.bool gb) ∧ w'.cell? ⟨w.heap.size + 1, 1, none⟩ = some (.slice q m d)) (simp [*, go_sem, World.cell?_alloc_past])
    (first
      | (go_at_call 52; refine (HM.out _ (grown_trans hg3 (grown_drew _ none))).mono ?_; rintro e w3 ⟨p3, n3, c3, rfl, h3, hn3, hg3'⟩; have hc3 := gcell hg3'; have hf3 := gfree hg3'; have hz3 := hg3'.size; simp at hz3)
      | (go_at_call 55; refine (rOf_any (ga != gb) h3.isN (by omega)).mono ?_; rintro e w4 ⟨g4, p4, n4, c4, rfl, h4, hn4, hg4⟩; have hg34 := grown_trans hg3' hg4; clear hc3 hf3 hz3; have hc4 := gcell hg34; have hf4 := gfree hg34; have hz4 := hg34.size; simp at hz4))
  all_goals go_wp2
  all_goals
    rw [HSG.out] at h4
    exact bodyPost_ret (v := .agg #[.bool g4, .slice p4 n4 c4]) (by simp [results, Tryd.results31, go_sem, hc4]) rfl (IPost.close (grown_trans hg3 (grown_drew _ none)) (third w _ _ _) (by omega) hg34 h4 (by omega))


end Go.Proofs.YthkgldpcgmnaiaaDoor
