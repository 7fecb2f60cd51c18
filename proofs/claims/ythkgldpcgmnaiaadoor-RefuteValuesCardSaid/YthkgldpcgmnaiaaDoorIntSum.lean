/-
  Contract of integer.sum.
-/
import Derived.Test.YthkgldpcgmnaiaaDoorInt
set_option linter.unusedVariables false
set_option linter.unusedSimpArgs false
namespace Go.Proofs.YthkgldpcgmnaiaaDoor
open Go.RowKit Nm

/-- a valid Int of Z is returned -/
def IPost (w : World) (Z : Int) (B : Nat) (e : Ending) (w' : World) : Prop :=
  ∃ g p n c, e = .returned (.agg #[.bool g, .slice p n c]) ∧ IsI w' g p n c Z ∧ n ≤ B ∧ w.grownBy w' none

/-- slices of numbers are not met where a struct lies -/
theorem IRd.other {w w' : World} {k : IntKind} {a : Option Addr} {n c : Nat} {xs : List Nat} {g : Nat} {cs : Array Value} {T : TypeId} {fz : Nat × Nat} (h : IRd w k a n c xs) (hb : w.heap[g]? = some (.cells cs T fz))
    (hcs : ∀ (j : Nat) (x : Int), cs[j]? ≠ some (.int k x)) (hg : w.grownBy w' (some g)) : IRd w' k a n c xs := by
  refine ⟨h.len, h.cap, h.max, fun j hj => ?_⟩
  obtain ⟨b, o, rfl, hc⟩ := h.cel j hj
  refine ⟨b, o, rfl, ?_⟩
  by_cases hbg : b = g
  · subst hbg
    rw [cell_of_row w b (o + j) cs T fz hb] at hc
    exact absurd hc (hcs _ _)
  · exact hg.cell hc (by simpa using hbg)

theorem two_cells (x : Bool) (y : Option Addr) (a b : Nat) (j : Nat) (k : IntKind) (z : Int) : (#[Value.bool x, Value.slice y a b])[j]? ≠ some (.int k z) := by
  match j with
  | 0 => simp
  | 1 => simp
  | j + 2 => simp

theorem IPost.close {w W w5 : World} {G : Nat} {x : Bool} {y : Option Addr} {a b : Nat} {T : TypeId} {g5 : Bool} {p4 : Option Addr} {n4 c4 : Nat} {Z : Int} {B : Nat}
    (hg3 : w.grownBy W none) (hW : W.heap[G]? = some (.cells #[.bool x, .slice y a b] T (0, 0))) (hG : w.heap.size ≤ G) (hg35 : W.grownBy w5 none) (h5 : IsI w5 g5 p4 n4 c4 Z) (hn : n4 ≤ B) :
    IPost w Z B (.returned (.agg #[.bool g5, .slice p4 n4 c4])) ((w5.setCell ⟨G, 0, none⟩ (.bool g5)).setCell ⟨G, 1, none⟩ (.slice p4 n4 c4)) := by
  have hb : w5.heap[G]? = some (.cells #[.bool x, .slice y a b] T (0, 0)) := (hg35.block G (lt_of_block hW) (by simp)).trans hW
  have h56 : w5.grownBy ((w5.setCell ⟨G, 0, none⟩ (.bool g5)).setCell ⟨G, 1, none⟩ (.slice p4 n4 c4)) (some G) := grown_trans (grown_setCell _ _ _) (grown_setCell _ ⟨G, 1, none⟩ _)
  exact ⟨g5, p4, n4, c4, rfl, ⟨IRd.other h5.1 hb (fun j z => two_cells x y a b j _ z) h56, h5.2⟩, hn, grown_new (grown_trans hg3 hg35) h56 (fun g e => by cases e; exact hG)⟩

/-- the last of three blocks -/
theorem third (w : World) (A B C : Obj) : (((w.alloc A).alloc B).alloc C).heap[w.heap.size + 2]? = some C := by
  have := heap_alloc_new ((w.alloc A).alloc B) C
  simpa using this
theorem second (w : World) (A B : Obj) : ((w.alloc A).alloc B).heap[w.heap.size + 1]? = some B := by
  have := heap_alloc_new (w.alloc A) B
  simpa using this



theorem sub_cast {N M : Nat} (h : N < M) (s : Bool) : sg (!s) N + sg s M = sg s (M - N) := by cases s <;> simp [sg] <;> omega
theorem sub_cast2 {N M : Nat} (h : M ≤ N) (s : Bool) : sg (!s) N + sg s M = sg (!s) (N - M) := by cases s <;> simp [sg] <;> omega


end Go.Proofs.YthkgldpcgmnaiaaDoor
