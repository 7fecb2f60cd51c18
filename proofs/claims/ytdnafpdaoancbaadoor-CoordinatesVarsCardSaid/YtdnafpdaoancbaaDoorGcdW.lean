/-
  Contracts of math/bits.TrailingZeros64 and natural.wordGcd, where the table of package math/bits holds what its initialiser lays.
-/
import Derived.Test.YtdnafpdaoancbaaDoorDiv64
import Derived.Test.YtdnafpdaoancbaaDoorGcdA
import Derived.Lib.TrailingZeros
set_option linter.unusedVariables false
set_option linter.unusedSimpArgs false
namespace Go.Proofs.YtdnafpdaoancbaaDoor
open Go.RowKit Nm

/-- the table of package math/bits as its initialiser lays it -/
def Tb (w : World) : Prop := ∀ j, j < 64 → w.cell? ⟨2, j, none⟩ = some (.int .u8 (Lib.deBruijn64tab.getD j 0 : Nat))
theorem Tb.keep {w w' : World} (h : Tb w) (hg : w.grownBy w' none) : Tb w' := fun j hj => hg.cell (h j hj) (by simp)

theorem tz_key (x a : Nat) (hx : x < 18446744073709551616) (hx0 : x ≠ 0) (hlow : x &&& (18446744073709551616 - x) = a) :
    IntKind.u64.wrap (bits BinOp.and IntKind.u64 (x : Int) (IntKind.u64.wrap (-(x : Int))) * 285870213051353865) / 288230376151711744 = ((a * 285870213051353865 % 18446744073709551616 / 288230376151711744 : Nat) : Int) := by
  have e1 : IntKind.u64.wrap (-(x : Int)) = ((18446744073709551616 - x : Nat) : Int) := by rw [IntKind.wrap_u64]; omega
  rw [e1, bits_and_u64_nat x _ hx (by omega), hlow, IntKind.wrap_u64]
  omega

theorem tz64_core (x k idx : Nat) (w : World) (hx0 : ((x : Int) == 0) = false)
    (key : IntKind.u64.wrap (bits BinOp.and IntKind.u64 (x : Int) (IntKind.u64.wrap (-(x : Int))) * 285870213051353865) / 288230376151711744 = (idx : Int))
    (hi : idx < 64) (hk : k < 64) (hcell : w.cell? ⟨2, idx, none⟩ = some (.int .u8 k)) :
    Calls Tryd.prog 44 #[.int .u64 x] w fun e w' => e = .returned (.int .i64 k) ∧ w = w' := by
  go_enter Tryd.func44, Tryd.ntmps44
  go_wp2_with (simp only [key])
  go_ret
  exact ⟨rfl, rfl⟩

theorem tz64_any (x : Nat) (h0 : 0 < x) (hx : x < W64) (w : World) (hT : Tb w) :
    Calls Tryd.prog 44 #[.int .u64 x] w fun e w' => ∃ k : Nat, k < 64 ∧ e = .returned (.int .i64 k) ∧ Hid (∃ m, x = 2 ^ k * (2 * m + 1)) ∧ w = w' := by
  have hx' : x < 18446744073709551616 := hx
  obtain ⟨hlow, hk⟩ := Lib.lowest_bit 64 x (by omega) hx'
  obtain ⟨hi, htab⟩ := Lib.deBruijn64_at _ hk
  have hcell := hT _ hi
  rw [htab] at hcell
  have hc := tz64_core x _ _ w (beq_eq_false_iff_ne.2 (by omega)) (tz_key x _ hx' (by omega) hlow) hi hk hcell
  refine hc.mono fun e w' ⟨he, hw⟩ => ⟨_, hk, he, hid ?_, hw⟩
  unfold Lib.ctz
  rw [if_neg (by omega)]
  obtain ⟨m, hm, _⟩ := Lib.ctzFrom_spec 64 x h0 hx'
  exact ⟨m, hm⟩

end Go.Proofs.YtdnafpdaoancbaaDoor
