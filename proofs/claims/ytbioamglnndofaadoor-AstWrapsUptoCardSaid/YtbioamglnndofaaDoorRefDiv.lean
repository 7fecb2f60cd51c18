/-
  Contracts of the reference's digit and DivMod.
-/
import Derived.Test.YtbioamglnndofaaDoorRefMul
import Derived.Test.YtbioamglnndofaaDoorDivN
set_option linter.unusedVariables false
set_option linter.unusedSimpArgs false
namespace Go.Proofs.YtbioamglnndofaaDoor
open Go.RowKit Nm



/-- a new slice of one number, of the call's own -/
theorem one_own (w : World) (base : Nat) (e : TypeId) (k : IntKind) (v : Int) (y : Nat) (hv : v = (y : Int)) (hb : base ≤ w.heap.size) : IOwn (w.alloc (.cells #[.int k v] e)) base e k (some ⟨w.heap.size, 0, none⟩) 1 1 [y] := by
  subst hv
  exact IOwn.made w base e k [y] hb (by simp)

theorem cons_isN {w : World} {p : Option Addr} {n c x : Nat} {xs : List Nat} (h : IRd w .u16 p (1 + n) c ([x] ++ xs)) (hx : x < 65536) (hd : Dg 65536 xs) : IsN w p (1 + n) c (x + 65536 * V 65536 xs) :=
  ⟨_, h, Dg.cons hx hd, rfl⟩


end Go.Proofs.YtbioamglnndofaaDoor
