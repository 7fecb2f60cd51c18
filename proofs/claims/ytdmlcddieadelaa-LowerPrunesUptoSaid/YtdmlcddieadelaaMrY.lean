/-
  Whatever the figure and the number are, as long as the figure holds at most 1048576 values (the second form), the Go function LowerPrunes returns true and leaves them as they are. No conditions.
-/
import Derived.Test.YtdmlcddieadelaaMrP
import Derived.Test.YtdmlcddieadelaaMrF
import Derived.Test.YtdmlcddieadelaaFrmL
import Derived.Test.YtdmlcddieadelaaRows
import Derived.WalkKit
import Derived.ProofKit
import Derived.OpenShut
import Derived.JoinedCond

set_option linter.unusedVariables false
set_option linter.unusedSimpArgs false
namespace Go.Proofs.Ytdmlcddieadelaa
open Go.ChangeShapes Go.WideShapes Go.ChangeAt Go.RowKit _root_.Nm
theorem readFigN : Try.prog.readableRec 25 = true := by kernel_rfl
theorem rowFigN : 25 < Try.prog.types.size := of_decide_eq_true (by kernel_rfl)
set_option maxRecDepth 100000 in
theorem lowerPrunes_lifted (os : Os) (started : os.Started) (H : Type) (enc : TypeId × Value → H) (F : Stop.Interp) :
    ReturnsInHanded {} Try.checked os 3 .any ((Rows.OpenSpec.upto Rows.lowerPrunesSpec).pre6 enc Try.prog Try.f3 Rows.lowerPrunesUptoRow.domain false) (((Rows.OpenSpec.upto Rows.lowerPrunesSpec).at F).post enc Try.prog Try.f3 false true false false) := by
  refine returnsInHanded_of_cond (C := Try.checked) (s := Rows.OpenSpec.upto Rows.lowerPrunesSpec) (k := Rows.uptoSmall) rfl ownL started (by kernel_rfl) Try.func3
    (OpenSpec.witness (enc := enc) (C := Try.checked) (s := Rows.OpenSpec.upto Rows.lowerPrunesSpec) (k := Rows.uptoSmall) rfl false ⟨#[], #[.agg #[.slice none 0 0, .slice none 0 0], .int .i64 0], []⟩ 12 (by kernel_rfl) (by kernel_rfl) (by kernel_rfl)
      (x := ([.agg [.nil, .nil], .lit (.int .i64 0)], [], [])) (by kernel_rfl) (by kernel_rfl) (by kernel_rfl)) ?_
  intro W base args ds gs before hval0 hW _ hk _
  have hval : ∀ (j : Nat) t v, Try.f3.params[j]? = some t → args[j]? = some v → Value.okWide Try.prog W .any base t v := hval0
  have hW' := hW
  obtain ⟨p, q, hA0, hV, rfl, hfz, hnd⟩ := hW
  have hA : DataW.TrodAll enc Try.prog W 0 (fun _ => true) true Try.f3.params.toList args.toList ds p := hA0
  rw [Try.params3] at hA hval
  obtain ⟨v0, v1, d0, d1, p0, p1, rfl, rfl, rfl, h0, h1⟩ := trodAll_two hA
  obtain ⟨rfl, rfl⟩ := trodVars_none hV
  have hlt : ∀ x ∈ p0 ++ (p1), x.block < W.heap.size := fun x hx => hW'.lt x (by simpa using hx)
  have hb0 : Rows.uptoBulk d0 ≤ 1048576 := by
    have h1 := of_decide_eq_true hk
    exact Nat.le_trans (bulk_partF (by simp)) h1
  obtain ⟨cs, rfl, hsz⟩ := okWide_struct Try.underlying25 (hval 0 25 v0 rfl rfl)
  obtain ⟨x1, rfl, rfl, rfl, ws1⟩ := open_int Try.underlying3 (hval 1 3 v1 rfl rfl) h1
  obtain ⟨fuel, hf⟩ := h0
  have hl2 : cs.toList.length = 2 := by
    obtain ⟨_, _, _, _, hl, _, _⟩ := trod_struct2 Try.underlying25 hf
    rw [show Try.prog.cellsOf 25 = 2 from by kernel_rfl] at hl
    exact hl
  obtain ⟨pS, nS, cS, pG, nG, cG, C, P, NA, N1, N2, D, MA, M1, M2, hcs, hcS, hcG, hS, hG⟩ := open_figH hf hb0 hl2
  obtain ⟨x, A, B, hx, hA2, hB2, hx0⟩ := rightRef2 pS nS cS pG nG cG C P NA N1 N2 D MA M1 M2 W hcS hcG hS hG
  have hw := lowerPrunes_walk pS nS cS pG nG cG x1 W x hx (fun h => prune_both pS nS cS pG nG cG C P NA N1 N2 D MA M1 M2 W hcS hcG hS hG A B hA2 hB2 (hx0 h).1 (hx0 h).2.2.1 (hx0 h).2.2.2 x1)
  rw [show (#[.slice pS nS cS, .slice pG nG cG] : Array Value) = cs from by rw [← Array.toList_inj]; exact hcs.symm] at hw
  refine hw.mono fun e W' ⟨he, hg⟩ => ?_
  subst he
  have hB := grown_below hg
  exact ⟨_, rfl, _, _, _, [], _, [], hW', trodAll_mk1 (shut_bool Try.underlying4 true),
    trodAll_mk2 (Below.trod laidOutL readFigN rowFigN ⟨fuel, hf⟩ hB fun x hx => hlt x (by simp [hx])) (shut_int Try.underlying3 ws1), rfl, hB.frame _, fun h => by cases h⟩

theorem lowerPrunes_holds : Rows.LowerPrunesUptoSaid :=
  OpenClaim.holds_of_cond 3 Try.f3 rfl rfl rfl rfl rfl rfl rfl ⟨rfl, rfl, rfl, rfl, rfl⟩ rfl rfl rfl rfl rfl (by kernel_rfl) Try.func3 (by kernel_rfl)
    (of_decide_eq_true (by kernel_rfl)) (by unfold Func.isWrapper; first | (rw [if_pos (by decide +kernel)]; kernel_rfl) | (rw [if_neg (by decide +kernel)]; exact ⟨rfl, rfl⟩))
    (fun os started H enc _ F => lowerPrunes_lifted os started H enc F)
end Go.Proofs.Ytdmlcddieadelaa
