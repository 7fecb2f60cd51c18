/-
  Contracts of math/bits.Len64 and Len16.
-/
import Derived.Test.YtdmlcddieadelaaBits
import Derived.Lib.Tables
import Derived.Lib.ItoaNum
set_option linter.unusedVariables false
set_option linter.unusedSimpArgs false
namespace Go.Proofs.Ytdmlcddieadelaa
open Go.RowKit Nm

theorem wl_len8 {P : Program} {ops : Array Oper} {rest : List Oper} {o : Oper} {a : Act} {Q : Exit → Act → World → Prop} (w : World) (hg : o.guard = none) (T : TypeId) (S : ByteArray) (px : Operand) (hop : o.op = .index T (.const (.string S)) px)
    (hu : P.underlying T = some .string) (hS : S = Lib.len8tab) (k : IntKind) (i : Int) (hx : a.eval px = .int k i) (h0 : 0 ≤ i) (h1 : i ≤ 255)
    (hK : ∀ L : Nat, L ≤ 8 → Hid (L = Lib.bitLen i.toNat) → wpList P ops Q rest (a.put o.dst (.int .u8 L)) w) : wpList P ops Q (o :: rest) a w := by
  refine wpList_plain hg fun K hK' => ?_
  have hrun := Lib.run_index_len8tab (P := P) w T k i hu h0 h1
  rw [Lib.len8_of i h0 h1] at hrun
  subst hS
  have he : a.eval (.const (.string Lib.len8tab)) = .string Lib.len8tab := rfl
  unfold Oper.wp
  simp [execOp, hop, he, hx, hrun]
  exact hK' _ _ (hK _ (Lib.bitLen_le8' i h0 h1) (hid rfl))

/-- a number has as many binary digits as bitLen says -/
theorem bitLen_spec (x : Nat) (hx : x < W64) : (x = 0 ∧ Lib.bitLen x = 0) ∨ (1 ≤ Lib.bitLen x ∧ 2 ^ (Lib.bitLen x - 1) ≤ x ∧ x < 2 ^ Lib.bitLen x) := by
  by_cases h : x = 0
  · exact .inl ⟨h, by rw [h]; rfl⟩
  · exact .inr (Lib.bitLenAux_bounds 64 x hx h)

theorem bitLen_le64 (x : Nat) (hx : x < W64) : Lib.bitLen x ≤ 64 := Lib.bitLen_le x 64 (Nat.le_refl _) hx

end Go.Proofs.Ytdmlcddieadelaa
