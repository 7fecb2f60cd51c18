/-
  RatM, in one text.
-/
import Derived.Test.YtkggoniecmlglaaGreatDoorMrA
import Derived.Deep.RegionHeld3
import Derived.Deep.DeepCutAuto

set_option linter.unusedVariables false
set_option linter.unusedSimpArgs false
namespace Go.Proofs.YtkggoniecmlglaaGreatDoor
open Go.RowKit Nm

theorem wholeS_any {w : World} (p : Option Addr) (n c : Nat) :
    Calls Tryz.prog 24 #[.slice p n c] w fun e w' => e = .returned (.agg #[.bool false, .slice p n c]) ∧ w.grownBy w' none := by
  go_enter Tryz.func24, Tryz.ntmps24
  go_wp2
  exact bodyPost_ret (v := .agg #[.bool false, .slice p n c]) (by simp [results, Tryz.results24, go_sem]) rfl ⟨rfl, World.grownBy_alloc w _ none⟩

/-- a struct of a bool and a slice, written -/
theorem set2_block {w : World} {G : Nat} {x : Bool} {y : Option Addr} {a b : Nat} {T : TypeId} (hb : w.heap[G]? = some (.cells #[.bool x, .slice y a b] T (0, 0))) (g : Bool) (p : Option Addr) (n c : Nat) :
    ((w.setCell ⟨G, 0, none⟩ (.bool g)).setCell ⟨G, 1, none⟩ (.slice p n c)).heap[G]? = some (.cells #[.bool g, .slice p n c] T (0, 0)) := by
  have h1 := heap_setCell_same w G 0 _ _ (.bool g) hb
  have h2 := heap_setCell_same _ G 1 _ _ (.slice p n c) h1
  rw [h2]
  simp
theorem set2_grown (w : World) (G : Nat) (a b : Value) : w.grownBy ((w.setCell ⟨G, 0, none⟩ a).setCell ⟨G, 1, none⟩ b) (some G) :=
  grown_trans (grown_setCell w ⟨G, 0, none⟩ a) (grown_setCell _ ⟨G, 1, none⟩ b)
theorem IsZ.of_n {w : World} {q : Option Addr} {m d D : Nat} (h : IsN w q m d D) : IsZ w false q m d (D : Int) := IsZ.mk false h

theorem sum_val {X N M : Int} {Y D E : Nat} (hY : 0 < Y) (h : mkRat X Y = mkRat N D) : mkRat (X * (pd E : Int) + pn M E * (Y : Int)) (Y * pd E) = mkRat N D + mkRat M E := by
  rw [← h, ← pq M E, Rat.mkRat_add_mkRat _ _ (by omega) (by have := pd_pos E; omega)]

end Go.Proofs.YtkggoniecmlglaaGreatDoor
