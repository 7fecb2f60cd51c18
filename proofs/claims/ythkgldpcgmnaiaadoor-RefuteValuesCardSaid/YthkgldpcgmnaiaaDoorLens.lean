/-
  Contracts of math/bits.Len64 and Len16.
-/
import Derived.Test.YthkgldpcgmnaiaaDoorBits
import Derived.Lib.Tables
import Derived.Lib.ItoaNum
set_option linter.unusedVariables false
set_option linter.unusedSimpArgs false
namespace Go.Proofs.YthkgldpcgmnaiaaDoor
open Go.RowKit Nm

theorem wl_len8 {P : Program} {ops : Array Oper} {rest : List Oper} {o : Oper} {a : Act} {Q : Exit → Act → World → Prop} (w : World) (hg : o.guard = none) (T : TypeId) (S : ByteArray) (px : Operand) (hop : o.op = .index T (.const (.string S)) px)
    (hu : P.underlying T = some .string) (hS : S = Lib.len8tab) (k : IntKind) (i : Int) (hx : a.eval px = .int k i) (h0 : 0 ≤ i) (h1 : i ≤ 255)
    (hK : ∀ L : Nat, L ≤ 8 → Hid (L = Lib.bitLen i.toNat) → wpList P ops Q rest (a.put o.dst (.int .u8 L)) w) : wpList P ops Q (o :: rest) a w := by
  refine wpList_plain hg fun K hK' => ?_
  have hrun := Lib.run_index_len8tab (P := P) w T k i hu h0 h1
  rw [Lib.len8_of i h0 h1] at hrun
  subst hS
  have he : a.eval (.const (.string Lib.len8tab)) = .string Lib.len8tab := rfl
  unfold Oper.wp
  simp [execOp, hop, he, hx, hrun]
  exact hK' _ _ (hK _ (Lib.bitLen_le8' i h0 h1) (hid rfl))

set_option maxHeartbeats 1000000 in
theorem len64_int (x : Int) (h0 : 0 ≤ x) (h1 : x ≤ 18446744073709551615) (w : World) :
    Calls Tryd.prog 41 #[.int .u64 x] w fun e w' => e = .returned (.int .i64 (Lib.bitLen x.toNat : Nat)) ∧ w = w' := by
  go_enter Tryd.func41, Tryd.ntmps41
  go_wp2_with (refine wl_len8 _ rfl 9 _ (.tmp 21) rfl Tryd.underlying9 (by kernel_rfl) .u8 _ rfl (by omega) (by omega) ?_; intro L hL HL)
  all_goals
    go_ret
    have HL' := HL.out
    refine ⟨congrArg Ending.returned (congrArg (Value.int IntKind.i64) ?_), rfl⟩
  · have e : (x / 4294967296 / 65536 / 256).toNat = x.toNat / 72057594037927936 := by omega
    rw [Lib.bitLen_shift56 x.toNat (by omega) (by omega), ← e, ← HL']; omega
  · have e : (x / 4294967296 / 65536).toNat = x.toNat / 281474976710656 := by omega
    rw [Lib.bitLen_shift48 x.toNat (by omega) (by omega), ← e, ← HL']; omega
  · have e : (x / 4294967296 / 256).toNat = x.toNat / 1099511627776 := by omega
    rw [Lib.bitLen_shift40 x.toNat (by omega) (by omega), ← e, ← HL']; omega
  · have e : (x / 4294967296).toNat = x.toNat / 4294967296 := by omega
    rw [Lib.bitLen_shift32 x.toNat (by omega) (by omega), ← e, ← HL']; omega
  · have e : (x / 65536 / 256).toNat = x.toNat / 16777216 := by omega
    rw [Lib.bitLen_shift24 x.toNat (by omega) (by omega), ← e, ← HL']; omega
  · have e : (x / 65536).toNat = x.toNat / 65536 := by omega
    rw [Lib.bitLen_shift16 x.toNat (by omega) (by omega), ← e, ← HL']; omega
  · have e : (x / 256).toNat = x.toNat / 256 := by omega
    rw [Lib.bitLen_shift8 x.toNat (by omega) (by omega), ← e, ← HL']; omega
  · rw [← HL']

theorem len16_int (x : Int) (h0 : 0 ≤ x) (h1 : x ≤ 65535) (w : World) :
    Calls Tryd.prog 70 #[.int .u16 x] w fun e w' => e = .returned (.int .i64 (Lib.bitLen x.toNat : Nat)) ∧ w = w' := by
  go_enter Tryd.func70, Tryd.ntmps70
  go_wp2_with (refine wl_len8 _ rfl 9 _ (.tmp 9) rfl Tryd.underlying9 (by kernel_rfl) .u8 _ rfl (by omega) (by omega) ?_; intro L hL HL)
  all_goals
    go_ret
    have HL' := HL.out
    refine ⟨congrArg Ending.returned (congrArg (Value.int IntKind.i64) ?_), rfl⟩
  · have e : (x / 256).toNat = x.toNat / 256 := by omega
    rw [Lib.bitLen_shift8 x.toNat (by omega) (by omega), ← e, ← HL']; omega
  · rw [← HL']

/-- a number has as many binary digits as bitLen says -/
theorem bitLen_spec (x : Nat) (hx : x < W64) : (x = 0 ∧ Lib.bitLen x = 0) ∨ (1 ≤ Lib.bitLen x ∧ 2 ^ (Lib.bitLen x - 1) ≤ x ∧ x < 2 ^ Lib.bitLen x) := by
  by_cases h : x = 0
  · exact .inl ⟨h, by rw [h]; rfl⟩
  · exact .inr (Lib.bitLenAux_bounds 64 x hx h)

theorem bitLen_le64 (x : Nat) (hx : x < W64) : Lib.bitLen x ≤ 64 := Lib.bitLen_le x 64 (Nat.le_refl _) hx

theorem len64_any (x : Nat) (hx : x < W64) (w : World) :
    Calls Tryd.prog 41 #[.int .u64 x] w fun e w' => ∃ l : Nat, l ≤ 64 ∧ Hid (l = Lib.bitLen x) ∧ e = .returned (.int .i64 l) ∧ w = w' := by
  have h1 : x < 18446744073709551616 := hx
  refine (len64_int x (by omega) (by omega) w).mono fun e w' ⟨h, k⟩ => ⟨Lib.bitLen x, bitLen_le64 x hx, hid rfl, h, k⟩

theorem len16_any (x : Nat) (hx : x < 65536) (w : World) :
    Calls Tryd.prog 70 #[.int .u16 x] w fun e w' => ∃ l : Nat, l ≤ 16 ∧ Hid (l = Lib.bitLen x) ∧ e = .returned (.int .i64 l) ∧ w = w' := by
  refine (len16_int x (by omega) (by omega) w).mono fun e w' ⟨h, k⟩ => ⟨Lib.bitLen x, Lib.bitLen_le x 16 (by omega) hx, hid rfl, h, k⟩
end Go.Proofs.YthkgldpcgmnaiaaDoor
