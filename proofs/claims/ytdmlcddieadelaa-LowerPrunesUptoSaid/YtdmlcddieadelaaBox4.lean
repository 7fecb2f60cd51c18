/-
  Memory: a block of four cells. No program is mentioned here.
-/
import Derived.Test.YtdmlcddieadelaaMem
set_option linter.unusedVariables false
set_option linter.unusedSimpArgs false
namespace Nm
open Go Go.RowKit

theorem blk0 (w : World) (A : Obj) : (w.alloc A).heap[w.heap.size]? = some A := heap_alloc_new w A
theorem blk1 (w : World) (A B : Obj) : ((w.alloc A).alloc B).heap[w.heap.size]? = some A := (heap_alloc_old _ _ (by simp)).trans (heap_alloc_new w A)
theorem blk2 (w : World) (A B C : Obj) : (((w.alloc A).alloc B).alloc C).heap[w.heap.size]? = some A := (heap_alloc_old _ _ (by simp; omega)).trans (blk1 w A B)

section
variable {w : World} {G : Nat} {x y z u : Value} {T : TypeId}
theorem box4 (hb : w.heap[G]? = some (.cells #[x, y, z, u] T (0, 0))) :
    (w.cell? ⟨G, 0, none⟩ = some x ∧ w.cell? ⟨G, 1, none⟩ = some y ∧ w.cell? ⟨G, 2, none⟩ = some z ∧ w.cell? ⟨G, 3, none⟩ = some u) ∧ w.frozen? ⟨G, 0, none⟩ = false ∧ w.frozen? ⟨G, 1, none⟩ = false ∧ w.frozen? ⟨G, 2, none⟩ = false ∧ w.frozen? ⟨G, 3, none⟩ = false := by
  have k0 := cell_of_row w G 0 _ _ _ hb
  have k1 := cell_of_row w G 1 _ _ _ hb
  have k2 := cell_of_row w G 2 _ _ _ hb
  have k3 := cell_of_row w G 3 _ _ _ hb
  simp at k0 k1 k2 k3
  exact ⟨⟨k0, k1, k2, k3⟩, frozen_of_row w G 0 _ _ hb, frozen_of_row w G 1 _ _ hb, frozen_of_row w G 2 _ _ hb, frozen_of_row w G 3 _ _ hb⟩
theorem set4 (hb : w.heap[G]? = some (.cells #[x, y, z, u] T (0, 0))) (A B C D : Value) :
    ((((w.setCell ⟨G, 0, none⟩ A).setCell ⟨G, 1, none⟩ B).setCell ⟨G, 2, none⟩ C).setCell ⟨G, 3, none⟩ D).heap[G]? = some (.cells #[A, B, C, D] T (0, 0)) := by
  have h1 := heap_setCell_same w G 0 _ _ A hb
  have h2 := heap_setCell_same _ G 1 _ _ B h1
  have h3 := heap_setCell_same _ G 2 _ _ C h2
  have h4 := heap_setCell_same _ G 3 _ _ D h3
  simpa using h4
theorem set4_grown (w : World) (G : Nat) (A B C D : Value) : w.grownBy ((((w.setCell ⟨G, 0, none⟩ A).setCell ⟨G, 1, none⟩ B).setCell ⟨G, 2, none⟩ C).setCell ⟨G, 3, none⟩ D) (some G) :=
  grown_trans (grown_setCell w ⟨G, 0, none⟩ A) (grown_trans (grown_setCell _ ⟨G, 1, none⟩ B) (grown_trans (grown_setCell _ ⟨G, 2, none⟩ C) (grown_setCell _ ⟨G, 3, none⟩ D)))
theorem set1_grown {w0 w : World} (h : w0.grownBy w none) (G o : Nat) (A : Value) (hG : w0.heap.size ≤ G) : w0.grownBy (w.setCell ⟨G, o, none⟩ A) none :=
  grown_new h (grown_setCell w ⟨G, o, none⟩ A) fun g e => by cases e; exact hG
theorem set4_new {w0 w : World} (h : w0.grownBy w none) (G : Nat) (A B C D : Value) (hG : w0.heap.size ≤ G) : w0.grownBy ((((w.setCell ⟨G, 0, none⟩ A).setCell ⟨G, 1, none⟩ B).setCell ⟨G, 2, none⟩ C).setCell ⟨G, 3, none⟩ D) none :=
  grown_new h (set4_grown w G A B C D) fun g e => by cases e; exact hG
theorem keepB {w' : World} {O : Obj} (hb : w.heap[G]? = some O) (hg : w.grownBy w' none) : w'.heap[G]? = some O := (hg.block G (lt_of_block hb) (by simp)).trans hb
end
end Nm
