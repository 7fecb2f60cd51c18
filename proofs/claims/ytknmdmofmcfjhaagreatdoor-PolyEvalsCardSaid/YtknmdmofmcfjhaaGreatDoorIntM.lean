/-
  Contract of integer.Mul.
-/
import Derived.Test.YtknmdmofmcfjhaaGreatDoorIntA
import Derived.Deep.RegionWith
import Derived.Deep.RegionHeld3
set_option linter.unusedVariables false
set_option linter.unusedSimpArgs false
namespace Go.Proofs.YtknmdmofmcfjhaaGreatDoor
open Go.RowKit Nm


set_option maxHeartbeats 4000000 in
theorem intMul_any {w : World} {p q : Option Addr} {n c m d : Nat} {ga gb : Bool} {X Y : Int} (hA : IsZ w ga p n c X) (hB : IsZ w gb q m d Y) (hn : n ≤ 400000) (hm : m ≤ 400000) :
    Calls Tryz.prog 110 #[.agg #[.bool ga, .slice p n c], .agg #[.bool gb, .slice q m d]] w (IPost w (X * Y) (n + m)) := by
  have hg3 := grown_trans (grown_trans (World.grownBy_alloc w (.cells #[.bool ga, .slice p n c] 27) none) (World.grownBy_alloc _ (.cells #[.bool gb, .slice q m d] 27) none)) (World.grownBy_alloc _ (.cells #[.bool false, .slice none 0 0] 27) none)
  have HM := hid (fun W (h : w.grownBy W none) => natMul_n (hA.1.keep h) (hB.1.keep h) hn hm)
  have hsg : sg (ga != gb) (X.natAbs * Y.natAbs) = X * Y := by
    have h1 := sg_z hA
    have h2 := sg_z hB
    generalize X.natAbs = N at *
    generalize Y.natAbs = M at *
    subst h1; subst h2
    cases ga <;> cases gb <;> simp [sg, Int.neg_mul, Int.mul_neg]
  have HSG := hid hsg
  clear hsg
  go_enter Tryz.func110, Tryz.ntmps110
  go_wp2_with fail
  go_region_held3 (fun w' => w'.cell? ⟨w.heap.size, 0, none⟩ = some (.bool ga) ∧ w'.cell? ⟨w.heap.size, 1, none⟩ = some (.slice p n c) ∧ w'.cell? ⟨w.heap.size + 1, 0, none⟩ = some (.bool gb) ∧ w'.cell? ⟨w.heap.size + 1, 1, none⟩ = some (.slice q m d)) (simp [*, go_sem, World.cell?_alloc_past])
    (first
      | (go_at_call 158; refine (HM.out _ (grown_trans hg3 (grown_drew _ none))).mono ?_; rintro e w3 ⟨p3, n3, c3, rfl, h3, hn3, hg3'⟩; have hc3 := gcell hg3'; have hf3 := gfree hg3'; have hz3 := hg3'.size; simp at hz3)
      | (go_at_call 157; refine (signed_any h3 (ga != gb)).mono ?_; rintro e w4 ⟨g4, rfl, h4, hg4⟩; have hg34 := grown_trans hg3' hg4; clear hc3 hf3 hz3; have hc4 := gcell hg34; have hf4 := gfree hg34; have hz4 := hg34.size; simp at hz4))
  all_goals go_wp2
  all_goals
    rw [HSG.out] at h4
    exact bodyPost_ret (v := .agg #[.bool g4, .slice p3 n3 c3]) (by simp [results, Tryz.results110, go_sem, hc4]) rfl (IPost.close (grown_trans hg3 (grown_drew _ none)) (third w _ _ _) (by omega) hg34 h4 hn3)

end Go.Proofs.YtknmdmofmcfjhaaGreatDoor
