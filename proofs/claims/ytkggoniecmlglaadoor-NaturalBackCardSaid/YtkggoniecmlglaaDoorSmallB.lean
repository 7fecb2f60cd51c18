/-
  small over one, two and three naturals.
-/
import Derived.Test.YtkggoniecmlglaaDoorSmallA
set_option linter.unusedVariables false
set_option linter.unusedSimpArgs false
namespace Go.Proofs.YtkggoniecmlglaaDoor
open Go.RowKit Nm

theorem small1_three (a b r : Option Addr) (n c m d l k : Nat) (w : World) :
    Calls Tryd.prog 7 #[.slice (some ⟨w.heap.size, 0, none⟩) 3 3] (w.alloc (.cells #[.slice a n c, .slice b m d, .slice r l k] 23)) fun e w' =>
      e = .returned (.bool (decide (n ≤ 24 ∧ m ≤ 24 ∧ l ≤ 24))) ∧ w.grownBy w' none := by
  have := small1_any w.heap.size 3 [(a, n, c), (b, m, d), (r, l, k)] (w.alloc (.cells #[.slice a n c, .slice b m d, .slice r l k] 23)) (by simp) (fun j hj => by
    match j, hj with
    | 0, _ => simp
    | 1, _ => simp
    | 2, _ => simp)
  refine this.mono fun e w' ⟨h1, h2⟩ => ⟨by simpa using h1, h2 ▸ World.grownBy_alloc w _ none⟩

theorem small1_pair (a b : Option Addr) (n c m d : Nat) (w : World) :
    Calls Tryd.prog 7 #[.slice (some ⟨w.heap.size, 0, none⟩) 2 2] (w.alloc (.cells #[.slice a n c, .slice b m d] 23)) fun e w' =>
      e = .returned (.bool (decide (n ≤ 24 ∧ m ≤ 24))) ∧ w.grownBy w' none := by
  have := small1_any w.heap.size 2 [(a, n, c), (b, m, d)] (w.alloc (.cells #[.slice a n c, .slice b m d] 23)) (by simp) (fun j hj => by
    match j, hj with
    | 0, _ => simp
    | 1, _ => simp)
  refine this.mono fun e w' ⟨h1, h2⟩ => ⟨by simpa using h1, h2 ▸ World.grownBy_alloc w _ none⟩

theorem small1_one (a : Option Addr) (n c : Nat) (w : World) :
    Calls Tryd.prog 7 #[.slice (some ⟨w.heap.size, 0, none⟩) 1 1] (w.alloc (.cells #[.slice a n c] 23)) fun e w' =>
      e = .returned (.bool (decide (n ≤ 24))) ∧ w.grownBy w' none := by
  have := small1_any w.heap.size 1 [(a, n, c)] (w.alloc (.cells #[.slice a n c] 23)) (by simp) (fun j hj => by
    match j, hj with
    | 0, _ => simp)
  refine this.mono fun e w' ⟨h1, h2⟩ => ⟨by simpa using h1, h2 ▸ World.grownBy_alloc w _ none⟩

end Go.Proofs.YtkggoniecmlglaaDoor
