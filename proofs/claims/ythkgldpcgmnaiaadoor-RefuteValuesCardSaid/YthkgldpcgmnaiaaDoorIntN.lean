/-
  Contracts of integer.Norm and Neg.
-/
import Derived.Test.YthkgldpcgmnaiaaDoorIntA
import Derived.Deep.RegionWith
set_option linter.unusedVariables false
set_option linter.unusedSimpArgs false
namespace Go.Proofs.YthkgldpcgmnaiaaDoor
open Go.RowKit Nm

set_option maxHeartbeats 2000000 in
theorem intNorm_any {w : World} {p : Option Addr} {n c : Nat} {g : Bool} {Z : Int} (hA : IsZ w g p n c Z) (hn : n ≤ 400000) :
    Calls Tryd.prog 44 #[.agg #[.bool g, .slice p n c]] w (IPost w Z n) := by
  have hg2 := grown_trans (World.grownBy_alloc w (.cells #[.bool g, .slice p n c] 25) none) (World.grownBy_alloc _ (.cells #[.bool false, .slice none 0 0] 25) none)
  go_enter Tryd.func44, Tryd.ntmps44
  go_wp2_with fail
  go_region_with (first
    | (go_at_call 60; refine (magnitude_any (g := g) ((hA.1.keep hg2).keep (grown_drew _ none)) hn).mono ?_; rintro e w3 ⟨p3, n3, c3, rfl, h3, hn3, hg3⟩; have hc3 := gcell hg3; have hf3 := gfree hg3; have hz3 := hg3.size; simp at hz3)
    | (go_at_call 38; refine (signed_any h3 g).mono ?_; rintro e w4 ⟨g4, rfl, h4, hg4⟩; have hg34 := grown_trans hg3 hg4; clear hc3 hf3 hz3; have hc4 := gcell hg34; have hf4 := gfree hg34; have hz4 := hg34.size; simp at hz4))
  all_goals go_wp2
  all_goals
    rw [sg_z hA] at h4
    exact bodyPost_ret (v := .agg #[.bool g4, .slice p3 n3 c3]) (by simp [results, Tryd.results44, go_sem, hc4]) rfl (IPost.close (grown_trans hg2 (grown_drew _ none)) (second w _ _) (by omega) hg34 h4 hn3)


end Go.Proofs.YthkgldpcgmnaiaaDoor
