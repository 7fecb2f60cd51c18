/-
  The table of the reference in memory. No program is mentioned here.
-/
import Derived.Test.YtlkajmfpbgipbaaAstM
import Derived.Test.YtlkajmfpbgipbaaAstA
import Derived.Test.YtlkajmfpbgipbaaBox4
set_option linter.unusedVariables false
set_option linter.unusedSimpArgs false
namespace Go.Proofs.Ytlkajmfpbgipbaa
open Go.RowKit _root_.Nm Ax
def allocs (w : World) : List Obj → World
  | [] => w
  | o :: r => allocs (w.alloc o) r
def parObj (T : TypeId) (e : Ent) : Obj := .cells (e.p.map fun n => Value.int .i64 (n : Nat)).toArray T (0, 0)
def rowCells (B : Nat) : Nat → List Ent → List Value
  | _, [] => []
  | k, e :: r => .int .i64 (e.k : Nat) :: .int .i64 (e.s : Nat) :: .string ⟨e.w.toArray⟩ :: .slice (some ⟨B + k, 0, none⟩) e.p.length e.p.length :: rowCells B (k + 1) r
def rowObjs (T R : TypeId) (B : Nat) : List Obj := tab.map (parObj T) ++ [.cells (rowCells B 0 tab).toArray R (0, 0)]

theorem allocs_grown : ∀ (L : List Obj) (w : World), w.grownBy (allocs w L) none
  | [], w => grown_refl _ _
  | o :: r, w => grown_trans (World.grownBy_alloc w o none) (allocs_grown r _)
theorem allocs_heap : ∀ (L : List Obj) (w : World) (i : Nat), i < L.length → (allocs w L).heap[w.heap.size + i]? = L[i]?
  | [], w, i, h => absurd h (Nat.not_lt_zero i)
  | o :: r, w, 0, h => by
    show (allocs (w.alloc o) r).heap[w.heap.size + 0]? = some o
    exact keepB (blk0 w o) (allocs_grown r _)
  | o :: r, w, i + 1, h => by
    show (allocs (w.alloc o) r).heap[w.heap.size + (i + 1)]? = r[i]?
    have := allocs_heap r (w.alloc o) i (by simpa using h)
    rw [show (w.alloc o).heap.size = w.heap.size + 1 by simp] at this
    rw [← this, show w.heap.size + 1 + i = w.heap.size + (i + 1) by omega]
theorem rowCells_get (B : Nat) : ∀ (l : List Ent) (k i : Nat) (e : Ent), l[i]? = some e →
    (rowCells B k l)[i * 4]? = some (.int .i64 (e.k : Nat)) ∧ (rowCells B k l)[i * 4 + 1]? = some (.int .i64 (e.s : Nat)) ∧ (rowCells B k l)[i * 4 + 2]? = some (.string ⟨e.w.toArray⟩) ∧ (rowCells B k l)[i * 4 + 3]? = some (.slice (some ⟨B + (k + i), 0, none⟩) e.p.length e.p.length)
  | [], k, i, e, h => by simp at h
  | f :: r, k, 0, e, h => by
    obtain rfl : f = e := by simpa using h
    exact ⟨rfl, rfl, rfl, rfl⟩
  | f :: r, k, i + 1, e, h => by
    have := rowCells_get B r (k + 1) i e (by simpa using h)
    rw [show k + 1 + i = k + (i + 1) by omega] at this
    rw [show (i + 1) * 4 = i * 4 + 1 + 1 + 1 + 1 by omega]
    exact this
/-- the table's rows lie in the block b -/
def RwA (w w' : World) (b : Nat) : Prop := ∀ i e, tab[i]? = some e → ∃ (p : Option Addr) (n : Nat),
  (w'.cell? ⟨b, i * 4, none⟩ = some (.int .i64 (e.k : Nat)) ∧ w'.cell? ⟨b, i * 4 + 1, none⟩ = some (.int .i64 (e.s : Nat)) ∧ w'.cell? ⟨b, i * 4 + 2, none⟩ = some (.string ⟨e.w.toArray⟩) ∧ w'.cell? ⟨b, i * 4 + 3, none⟩ = some (.slice p n n)) ∧ Frs w p ∧ IRd w' .i64 p n n e.p
theorem RwA.keep {w w' w2 : World} {b : Nat} (h : RwA w w' b) (hg : w'.grownBy w2 none) : RwA w w2 b := by
  intro i e he
  obtain ⟨p, n, ⟨c0, c1, c2, c3⟩, hf, hr⟩ := h i e he
  exact ⟨p, n, ⟨hg.cell c0 (by simp), hg.cell c1 (by simp), hg.cell c2 (by simp), hg.cell c3 (by simp)⟩, hf, hr.keep hg⟩
theorem tab_len : tab.length = 30 := by kernel_rfl
theorem tab_at {i : Nat} (h : i < 30) : ∃ e, tab[i]? = some e := ⟨tab[i]'(by rw [tab_len]; exact h), List.getElem?_eq_getElem _⟩
theorem rows_there (T R : TypeId) (w : World) : w.grownBy (allocs w (rowObjs T R w.heap.size)) none ∧ RwA w (allocs w (rowObjs T R w.heap.size)) (w.heap.size + 30) := by
  have hL : (rowObjs T R w.heap.size).length = 31 := by simp [rowObjs, tab_len]
  refine ⟨allocs_grown _ _, fun i e he => ?_⟩
  have hi : i < 30 := by
    have := (List.getElem?_eq_some_iff.1 he).1
    rwa [tab_len] at this
  have hb := allocs_heap (rowObjs T R w.heap.size) w 30 (by omega)
  have hbo : (rowObjs T R w.heap.size)[30]? = some (.cells (rowCells w.heap.size 0 tab).toArray R (0, 0)) := by
    unfold rowObjs
    rw [List.getElem?_append_right (by simp [tab_len]), List.length_map, tab_len]
    rfl
  rw [hbo] at hb
  have hp := allocs_heap (rowObjs T R w.heap.size) w i (by omega)
  have hpo : (rowObjs T R w.heap.size)[i]? = some (parObj T e) := by
    unfold rowObjs
    rw [List.getElem?_append_left (by simp [tab_len]; exact hi), List.getElem?_map, he]
    rfl
  rw [hpo] at hp
  generalize allocs w (rowObjs T R w.heap.size) = w' at hb hp ⊢
  obtain ⟨r0, r1, r2, r3⟩ := rowCells_get w.heap.size tab 0 i e he
  have cc := fun k => cell_of_row w' (w.heap.size + 30) k _ _ _ hb
  refine ⟨some ⟨w.heap.size + (0 + i), 0, none⟩, e.p.length, ⟨?_, ?_, ?_, ?_⟩, ?_, ?_⟩
  · rw [cc]; simpa using r0
  · rw [cc]; simpa using r1
  · rw [cc]; simpa using r2
  · rw [cc]; simpa using r3
  · intro a h; cases h; exact Nat.le_add_right _ _
  · refine ⟨rfl, Nat.le_refl _, ?_, fun j hj => ⟨w.heap.size + (0 + i), 0, rfl, ?_⟩⟩
    · have : ∀ e ∈ tab, e.p.length ≤ 6 := by decide
      have := this e (List.mem_of_getElem? he)
      omega
    · rw [show w.heap.size + (0 + i) = w.heap.size + i by omega, show (0 : Nat) + j = j by omega]
      rw [cell_of_row w' (w.heap.size + i) j _ _ _ hp]
      simp [hj]
end Go.Proofs.Ytlkajmfpbgipbaa
