/-
  Contracts of Sort, Params, Word.
-/
import Derived.Test.YtlkajmfpbgipbaaAstC
set_option linter.unusedVariables false
set_option linter.unusedSimpArgs false
namespace Go.Proofs.Ytlkajmfpbgipbaa
open Go.RowKit _root_.Nm Ax
theorem shape_fld (x y z : Value) : (∀ w, (Instr.field 75 (.agg #[x, y, z]) 0).run Try.prog w = .ok x w) ∧ (∀ w, (Instr.field 75 (.agg #[x, y, z]) 1).run Try.prog w = .ok y w) ∧ (∀ w, (Instr.field 75 (.agg #[x, y, z]) 2).run Try.prog w = .ok z w) :=
  ⟨fun w => by kernel_rfl, fun w => by kernel_rfl, fun w => by kernel_rfl⟩
set_option maxRecDepth 100000 in
theorem sort_any (k : Int) (w : World) : Calls Try.prog 21 #[.int .i64 k] w fun e w' => e = .returned (.int .i64 (srt k : Nat)) ∧ w.grownBy w' none := by
  have hsf := shape_fld
  go_enter Try.func21, Try.ntmps21
  go_wp2_with (go_at_call 52; refine (shapeOf_any k _).mono ?_; rintro e w1 ⟨p, n, c, rfl, hf, hr, hg⟩; obtain ⟨j0, j1, j2⟩ := hsf (.int .i64 (srt k : Nat)) (.string ⟨(wrd k).toArray⟩) (.slice p n c))
  go_ret
  exact ⟨rfl, hg⟩
set_option maxRecDepth 100000 in
theorem word_any (k : Int) (w : World) : Calls Try.prog 26 #[.int .i64 k] w fun e w' => e = .returned (.string ⟨(wrd k).toArray⟩) ∧ w.grownBy w' none := by
  have hsf := shape_fld
  go_enter Try.func26, Try.ntmps26
  go_wp2_with (go_at_call 52; refine (shapeOf_any k _).mono ?_; rintro e w1 ⟨p, n, c, rfl, hf, hr, hg⟩; obtain ⟨j0, j1, j2⟩ := hsf (.int .i64 (srt k : Nat)) (.string ⟨(wrd k).toArray⟩) (.slice p n c))
  go_ret
  exact ⟨rfl, hg⟩
set_option maxRecDepth 100000 in
theorem params_any (k : Int) (w : World) : Calls Try.prog 24 #[.int .i64 k] w fun e w' => ∃ p n c, e = .returned (.slice p n c) ∧ Frs w p ∧ IRd w' .i64 p n c (prm k) ∧ w.grownBy w' none := by
  have hsf := shape_fld
  go_enter Try.func24, Try.ntmps24
  go_wp2_with (go_at_call 52; refine (shapeOf_any k _).mono ?_; rintro e w1 ⟨p, n, c, rfl, hf, hr, hg⟩; obtain ⟨j0, j1, j2⟩ := hsf (.int .i64 (srt k : Nat)) (.string ⟨(wrd k).toArray⟩) (.slice p n c))
  go_ret
  exact ⟨p, n, c, rfl, hf, hr, hg⟩
end Go.Proofs.Ytlkajmfpbgipbaa
