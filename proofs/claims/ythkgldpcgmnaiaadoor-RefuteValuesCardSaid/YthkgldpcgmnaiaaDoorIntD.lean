/-
  Contract of integer.DivMod, given that of natural.DivMod.
-/
import Derived.Test.YthkgldpcgmnaiaaDoorIntOf
set_option linter.unusedVariables false
set_option linter.unusedSimpArgs false
namespace Go.Proofs.YthkgldpcgmnaiaaDoor
open Go.RowKit Nm

/-- the quotient and the rest of two integers, given by signs and absolute values -/
def qZ (ga gb : Bool) (N M : Nat) : Int := sg (ga != gb) (if ga = true ∧ 0 < N % M then N / M + 1 else N / M)
def rZ (ga : Bool) (N M : Nat) : Nat := if ga = true ∧ 0 < N % M then M - N % M else N % M

/-- what integer.DivMod returns -/
def DmI (w : World) (Q R : Int) (B C : Nat) (e : Ending) (w' : World) : Prop :=
  ∃ g p n c h q m d, e = .returned (.tuple #[.agg #[.bool g, .slice p n c], .agg #[.bool h, .slice q m d], .int .i64 0]) ∧ IsI w' g p n c Q ∧ IsI w' h q m d R ∧ n ≤ B ∧ m ≤ C ∧ w.grownBy w' none

theorem IsI.other {w w' : World} {g : Bool} {p : Option Addr} {n c : Nat} {Z : Int} {G : Nat} {x : Bool} {y : Option Addr} {a b : Nat} {T : TypeId} (h : IsI w g p n c Z) (hb : w.heap[G]? = some (.cells #[.bool x, .slice y a b] T (0, 0))) (hg : w.grownBy w' (some G)) : IsI w' g p n c Z :=
  ⟨IRd.other h.1 hb (fun j z => two_cells x y a b j _ z) hg, h.2⟩

theorem DmI.close {w W w5 : World} {G G2 : Nat} {x x2 : Bool} {y y2 : Option Addr} {a b a2 b2 : Nat} {T T2 : TypeId} {g h : Bool} {p q : Option Addr} {n c m d : Nat} {Q R : Int} {B C : Nat}
    (hg3 : w.grownBy W none) (hW : W.heap[G]? = some (.cells #[.bool x, .slice y a b] T (0, 0))) (hW2 : W.heap[G2]? = some (.cells #[.bool x2, .slice y2 a2 b2] T2 (0, 0))) (hG : w.heap.size ≤ G) (hG2 : w.heap.size ≤ G2) (hne : G2 ≠ G)
    (hg35 : W.grownBy w5 none) (h5 : IsI w5 g p n c Q) (h6 : IsI w5 h q m d R) (hn : n ≤ B) (hm : m ≤ C) :
    DmI w Q R B C (.returned (.tuple #[.agg #[.bool g, .slice p n c], .agg #[.bool h, .slice q m d], .int .i64 0]))
      ((((w5.setCell ⟨G, 0, none⟩ (.bool g)).setCell ⟨G, 1, none⟩ (.slice p n c)).setCell ⟨G2, 0, none⟩ (.bool h)).setCell ⟨G2, 1, none⟩ (.slice q m d)) := by
  have hb : w5.heap[G]? = some (.cells #[.bool x, .slice y a b] T (0, 0)) := (hg35.block G (lt_of_block hW) (by simp)).trans hW
  have hb2 : w5.heap[G2]? = some (.cells #[.bool x2, .slice y2 a2 b2] T2 (0, 0)) := (hg35.block G2 (lt_of_block hW2) (by simp)).trans hW2
  have h56 : w5.grownBy ((w5.setCell ⟨G, 0, none⟩ (.bool g)).setCell ⟨G, 1, none⟩ (.slice p n c)) (some G) := grown_trans (grown_setCell _ _ _) (grown_setCell _ ⟨G, 1, none⟩ _)
  have hb3 := (h56.block G2 (lt_of_block hb2) (by simpa using hne)).trans hb2
  generalize (w5.setCell ⟨G, 0, none⟩ (.bool g)).setCell ⟨G, 1, none⟩ (.slice p n c) = w6 at *
  have h67 : w6.grownBy ((w6.setCell ⟨G2, 0, none⟩ (.bool h)).setCell ⟨G2, 1, none⟩ (.slice q m d)) (some G2) := grown_trans (grown_setCell _ _ _) (grown_setCell _ ⟨G2, 1, none⟩ _)
  exact ⟨g, p, n, c, h, q, m, d, rfl, (h5.other hb h56).other hb3 h67, (h6.other hb h56).other hb3 h67, hn, hm,
    grown_new (grown_new (grown_trans hg3 hg35) h56 (fun g e => by cases e; exact hG)) h67 (fun g e => by cases e; exact hG2)⟩

theorem four_third (w : World) (A B C D : Obj) : ((((w.alloc A).alloc B).alloc C).alloc D).heap[w.heap.size + 2]? = some C := by
  exact (Below.heap_alloc (((w.alloc A).alloc B).alloc C) D (w.heap.size + 2) (by simp)).trans (third w A B C)
theorem four_fourth (w : World) (A B C D : Obj) : ((((w.alloc A).alloc B).alloc C).alloc D).heap[w.heap.size + 3]? = some D := by
  have := heap_alloc_new (((w.alloc A).alloc B).alloc C) D
  simpa using this

theorem dg_div_len {N M n : Nat} (h : N < 65536 ^ n) : (dg 65536 (N / M)).length ≤ n := dg_length_le (by omega) (Nat.lt_of_le_of_lt (Nat.div_le_self _ _) h)
theorem dg_mod_len {N M m : Nat} (h : M < 65536 ^ m) (hM : 0 < M) : (dg 65536 (N % M)).length ≤ m := dg_length_le (by omega) (Nat.lt_trans (Nat.mod_lt _ hM) h)

end Go.Proofs.YthkgldpcgmnaiaaDoor
