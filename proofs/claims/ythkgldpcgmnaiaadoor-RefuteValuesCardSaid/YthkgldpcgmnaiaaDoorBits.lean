/-
  Contracts of the functions of package math/bits that package natural calls.
-/
import Derived.Test.YthkgldpcgmnaiaaDoorProg
import Derived.Test.YthkgldpcgmnaiaaDoorMem
import Derived.Lib.Mul64
import Derived.Lib.BitFns
import Derived.Laws.Bits64b
import Derived.Laws.Externs
set_option linter.unusedVariables false
set_option linter.unusedSimpArgs false
namespace Go.Proofs.YthkgldpcgmnaiaaDoor
open Go.RowKit Nm

/-- 2 to the 64th -/
def W64 : Nat := 18446744073709551616

theorem and_low (a : Nat) (ha : a < 18446744073709551616) : bits .and .u64 (a : Int) 4294967295 = ((a % 4294967296 : Nat) : Int) :=
  (bits_and_u64_nat a 4294967295 ha (by omega)).trans (by rw [Nat.and_two_pow_sub_one_eq_mod a 32])
theorem cast_div (a : Nat) : (a : Int) / 4294967296 = ((a / 4294967296 : Nat) : Int) := by omega
theorem cast_mul (a b : Nat) : (a : Int) * (b : Int) = ((a * b : Nat) : Int) := by simp
theorem cast_add (a b : Nat) : (a : Int) + (b : Int) = ((a + b : Nat) : Int) := by simp
theorem wrap_in (a : Nat) (ha : a < 18446744073709551616) : IntKind.u64.wrap (a : Int) = (a : Int) := by rw [IntKind.wrap_u64]; omega
theorem wrap_mod (a : Nat) : IntKind.u64.wrap (a : Int) = ((a % 18446744073709551616 : Nat) : Int) := by rw [IntKind.wrap_u64]; omega

theorem mul64_any (x y : Nat) (hx : x < 18446744073709551616) (hy : y < 18446744073709551616) (w : World) :
    Calls Tryd.prog 84 #[.int .u64 x, .int .u64 y] w fun e w' => ∃ hi lo : Nat, e = .returned (.tuple #[.int .u64 hi, .int .u64 lo]) ∧ hi < W64 ∧ lo < W64 ∧ Hid (x * y = lo + W64 * hi) ∧ w = w' := by
  obtain ⟨bd, bt, bw, hhi⟩ := Lib.mul64_hi x y hx hy
  have p1 := Lib.half_mul_le (a := x / 4294967296) (b := y / 4294967296) (by omega) (by omega)
  have p2 := Lib.half_mul_le (a := x / 4294967296) (b := y % 4294967296) (by omega) (by omega)
  have p3 := Lib.half_mul_le (a := x % 4294967296) (b := y / 4294967296) (by omega) (by omega)
  have q1 : x / 4294967296 * (y / 4294967296) < 18446744073709551616 := by omega
  have q2 : x / 4294967296 * (y % 4294967296) < 18446744073709551616 := by omega
  have q3 : x % 4294967296 * (y / 4294967296) < 18446744073709551616 := by omega
  have s1 : x / 4294967296 * (y / 4294967296) + (x / 4294967296 * (y % 4294967296) + x % 4294967296 * (y % 4294967296) / 4294967296) / 4294967296 < 18446744073709551616 := by omega
  have s2 : x / 4294967296 * (y / 4294967296) + (x / 4294967296 * (y % 4294967296) + x % 4294967296 * (y % 4294967296) / 4294967296) / 4294967296 + ((x / 4294967296 * (y % 4294967296) + x % 4294967296 * (y % 4294967296) / 4294967296) % 4294967296 + x % 4294967296 * (y / 4294967296)) / 4294967296 < 18446744073709551616 := by omega
  go_enter Tryd.func84, Tryd.ntmps84
  go_wp2
  simp only [and_low x hx, and_low y hy, cast_div, cast_mul, cast_add, wrap_in _ bd, wrap_in _ q2, wrap_in _ bt, and_low _ bt, wrap_in _ q3, wrap_in _ bw, wrap_in _ q1, wrap_in _ s1, wrap_in _ s2, wrap_mod (x * y)]
  rw [hhi]
  go_ret2
  have hlt : x * y < 18446744073709551616 * 18446744073709551616 := Nat.mul_lt_mul'' hx hy
  refine ⟨_, _, rfl, ?_, Nat.mod_lt _ (by decide), ?_, rfl⟩
  · exact Nat.div_lt_of_lt_mul hlt
  · exact (Nat.mod_add_div (x * y) 18446744073709551616).symm

theorem run_add (x y c : Nat) (hc : c ≤ 1) (w : World) :
    (callFunc 91 #[.int .u64 x, .int .u64 y, .int .u64 c]).run Tryd.prog w =
      .ok (.value (.tuple #[.int .u64 ((x + y + c) % 18446744073709551616 : Nat), .int .u64 ((x + y + c) / 18446744073709551616 : Nat)])) w := by
  have : c = 0 ∨ c = 1 := by omega
  rw [run_callFunc_extern Tryd.func91 (by kernel_rfl) (by kernel_rfl) (by kernel_rfl) (by kernel_rfl), run_add64 x y c (by omega) (by omega) (by omega) (by omega)]
  simp only [Result.andThen]
  congr 5 <;> omega
/-- the model's entry for math/bits.Sub64, at a borrow of 0 or 1 -/
theorem run_sub (x y b : Nat) (hb : b ≤ 1) (hx : x < 18446744073709551616) (hy : y < 18446744073709551616) (w : World) :
    ∃ d c : Nat, (callFunc 92 #[.int .u64 x, .int .u64 y, .int .u64 b]).run Tryd.prog w = .ok (.value (.tuple #[.int .u64 d, .int .u64 c])) w ∧ d < W64 ∧ c ≤ 1 ∧ Hid (d + (y + b) = x + W64 * c) := by
  refine ⟨(x + 18446744073709551616 - y - b) % 18446744073709551616, if x < y + b then 1 else 0, ?_, Nat.mod_lt _ (by decide), by split <;> omega, ?_⟩
  · have : b = 0 ∨ b = 1 := by omega
    rw [run_callFunc_extern Tryd.func92 (by kernel_rfl) (by kernel_rfl) (by kernel_rfl) (e := fun args => do
      let (x, y, b) ← Extern.MathBitsCarry.three "Sub64" args
      pure (Extern.MathBitsCarry.pair ((x + Extern.MathBitsCarry.m64 - y - b) % Extern.MathBitsCarry.m64) (if x < y + b then 1 else 0))) (by kernel_rfl)]
    rcases this with rfl | rfl <;> rfl
  · show _ = _
    unfold W64
    split <;> omega

section
variable {ops : Array Oper} {rest : List Oper} {o : Oper} {a : Act} {Q : Exit → Act → World → Prop}

theorem wl_add64 (w : World) (hg : o.guard = none) (px py pc : Operand) (T : Array TypeId) (hop : o.op = .call { callee := .value (.func 91), args := #[px, py, pc], argTypes := T })
    (x y c : Nat) (hx : a.eval px = .int .u64 x) (hy : a.eval py = .int .u64 y) (hc : a.eval pc = .int .u64 c) (bx : x < W64) (by' : y < W64) (bc : c ≤ 1)
    (hK : ∀ s co : Nat, s < W64 → co ≤ 1 → Hid (x + y + c = s + W64 * co) → wpList Tryd.prog ops Q rest (a.put o.dst (.tuple #[.int .u64 s, .int .u64 co])) w) :
    wpList Tryd.prog ops Q (o :: rest) a w := by
  refine wpList_plain hg fun K hK' => ?_
  have hrun := run_add x y c bc w
  have hm := Nat.mod_add_div (x + y + c) 18446744073709551616
  have hl := Nat.mod_lt (x + y + c) (show 0 < 18446744073709551616 by decide)
  unfold W64 at *
  generalize (x + y + c) % 18446744073709551616 = s at *
  generalize (x + y + c) / 18446744073709551616 = co at *
  unfold Oper.wp
  have he : a.eval (.func 91) = .func (.func 91) #[] #[] := rfl
  simp [execOp, hop, resolve, invoke, Deferred.ofValue, he, hx, hy, hc, hrun]
  exact hK' _ _ (hK s co hl (by omega) hm.symm)

theorem wl_sub64 (w : World) (hg : o.guard = none) (px py pc : Operand) (T : Array TypeId) (hop : o.op = .call { callee := .value (.func 92), args := #[px, py, pc], argTypes := T })
    (x y c : Nat) (hx : a.eval px = .int .u64 x) (hy : a.eval py = .int .u64 y) (hc : a.eval pc = .int .u64 c) (bx : x < W64) (by' : y < W64) (bc : c ≤ 1)
    (hK : ∀ s co : Nat, s < W64 → co ≤ 1 → Hid (s + (y + c) = x + W64 * co) → wpList Tryd.prog ops Q rest (a.put o.dst (.tuple #[.int .u64 s, .int .u64 co])) w) :
    wpList Tryd.prog ops Q (o :: rest) a w := by
  refine wpList_plain hg fun K hK' => ?_
  obtain ⟨s, co, hrun, h1, h2, h3⟩ := run_sub x y c bc bx by' w
  unfold Oper.wp
  have he : a.eval (.func 92) = .func (.func 92) #[] #[] := rfl
  simp [execOp, hop, resolve, invoke, Deferred.ofValue, he, hx, hy, hc, hrun]
  exact hK' _ _ (hK s co h1 h2 h3)
end
end Go.Proofs.YthkgldpcgmnaiaaDoor
