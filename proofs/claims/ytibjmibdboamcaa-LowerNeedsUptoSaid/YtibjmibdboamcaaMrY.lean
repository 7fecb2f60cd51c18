/-
  Whatever the figure and the numbers are, as long as they hold at most 1048576 values (the second form), the Go function LowerNeeds returns true and leaves them as they are. No conditions.
-/
import Derived.Test.YtibjmibdboamcaaMrN
import Derived.Test.YtibjmibdboamcaaMrF
import Derived.Test.YtibjmibdboamcaaFrmL
import Derived.Test.YtibjmibdboamcaaRows
import Derived.WalkKit
import Derived.ProofKit
import Derived.OpenShut
import Derived.JoinedCond

set_option linter.unusedVariables false
set_option linter.unusedSimpArgs false
namespace Go.Proofs.Ytibjmibdboamcaa
open Go.ChangeShapes Go.WideShapes Go.ChangeAt Go.RowKit _root_.Nm
theorem readFigN : Try.prog.readableRec 25 = true := by kernel_rfl
theorem rowFigN : 25 < Try.prog.types.size := of_decide_eq_true (by kernel_rfl)
theorem readIntsN : Try.prog.readableRec 26 = true := by kernel_rfl
theorem rowIntsN : 26 < Try.prog.types.size := of_decide_eq_true (by kernel_rfl)
set_option maxRecDepth 100000 in
theorem lowerNeeds_lifted (os : Os) (started : os.Started) (H : Type) (enc : TypeId × Value → H) (F : Stop.Interp) :
    ReturnsInHanded {} Try.checked os 3 .any ((Rows.OpenSpec.upto Rows.lowerNeedsSpec).pre6 enc Try.prog Try.f3 Rows.lowerNeedsUptoRow.domain false) (((Rows.OpenSpec.upto Rows.lowerNeedsSpec).at F).post enc Try.prog Try.f3 false true false false) := by
  refine returnsInHanded_of_cond (C := Try.checked) (s := Rows.OpenSpec.upto Rows.lowerNeedsSpec) (k := Rows.uptoSmall) rfl ownL started (by kernel_rfl) Try.func3
    (OpenSpec.witness (enc := enc) (C := Try.checked) (s := Rows.OpenSpec.upto Rows.lowerNeedsSpec) (k := Rows.uptoSmall) rfl false ⟨#[], #[.agg #[.slice none 0 0, .slice none 0 0], .slice none 0 0], []⟩ 12 (by kernel_rfl) (by kernel_rfl) (by kernel_rfl)
      (x := ([.agg [.nil, .nil], .nil], [], [])) (by kernel_rfl) (by kernel_rfl) (by kernel_rfl)) ?_
  intro W base args ds gs before hval0 hW _ hk _
  have hval : ∀ (j : Nat) t v, Try.f3.params[j]? = some t → args[j]? = some v → Value.okWide Try.prog W .any base t v := hval0
  have hW' := hW
  obtain ⟨p, q, hA0, hV, rfl, hfz, hnd⟩ := hW
  have hA : DataW.TrodAll enc Try.prog W 0 (fun _ => true) true Try.f3.params.toList args.toList ds p := hA0
  rw [Try.params3] at hA hval
  obtain ⟨v0, v1, d0, d1, p0, p1, rfl, rfl, rfl, h0, h1⟩ := trodAll_two hA
  obtain ⟨rfl, rfl⟩ := trodVars_none hV
  have hlt : ∀ x ∈ p0 ++ (p1), x.block < W.heap.size := fun x hx => hW'.lt x (by simpa using hx)
  have hb0 : Rows.uptoBulk d0 ≤ 1048576 := by
    have h1 := of_decide_eq_true hk
    exact Nat.le_trans (bulk_partF (by simp)) h1
  obtain ⟨cs, rfl, hsz⟩ := okWide_struct Try.underlying25 (hval 0 25 v0 rfl rfl)
  obtain ⟨a0, len0, cap0, rfl⟩ := okWide_slice Try.underlying26 (hval 1 26 v1 rfl rfl)
  obtain ⟨fuel, hf⟩ := h0
  obtain ⟨fuel1, hf1⟩ := h1
  have hl2 : cs.toList.length = 2 := by
    obtain ⟨_, _, _, _, hl, _, _⟩ := trod_struct2 Try.underlying25 hf
    rw [show Try.prog.cellsOf 25 = 2 from by kernel_rfl] at hl
    exact hl
  obtain ⟨pS, nS, cS, pG, nG, cG, C, P, NA, N1, N2, D, MA, M1, M2, hcs, hcS, hcG, hS, hG⟩ := open_figH hf hb0 hl2
  obtain ⟨pp, m, cp, ps, hcp, hps, _⟩ := open_intsF hf1
  have hcp' : Value.slice a0 len0 cap0 = .slice pp m cp := by
    have h : [Value.slice a0 len0 cap0] = [Value.slice pp m cp] := hcp
    exact (List.cons.inj h).1
  obtain ⟨x, A, hx, hA2, hx0⟩ := rightRef pS nS cS pG nG cG C P NA N1 N2 D MA M1 M2 W hcS hcG hS hG
  have hw := lowerNeeds_walk pS nS cS pG nG cG C P NA N1 N2 A pp m cp ps W hcS (fun i hi => (hS i hi).1) hA2 hps x hx hx0
  rw [show (#[.slice pS nS cS, .slice pG nG cG] : Array Value) = cs from by rw [← Array.toList_inj]; exact hcs.symm, ← hcp'] at hw
  refine hw.mono fun e W' ⟨he, hg⟩ => ?_
  subst he
  have hB := grown_below hg
  exact ⟨_, rfl, _, _, _, [], _, [], hW', trodAll_mk1 (shut_bool Try.underlying4 true),
    trodAll_mk2 (Below.trod laidOutL readFigN rowFigN ⟨fuel, hf⟩ hB fun x hx => hlt x (by simp [hx])) (Below.trod laidOutL readIntsN rowIntsN ⟨fuel1, hf1⟩ hB fun x hx => hlt x (by simp [hx])), rfl, hB.frame _, fun h => by cases h⟩

theorem lowerNeeds_holds : Rows.LowerNeedsUptoSaid :=
  OpenClaim.holds_of_cond 3 Try.f3 rfl rfl rfl rfl rfl rfl rfl ⟨rfl, rfl, rfl, rfl, rfl⟩ rfl rfl rfl rfl rfl (by kernel_rfl) Try.func3 (by kernel_rfl)
    (of_decide_eq_true (by kernel_rfl)) (by unfold Func.isWrapper; first | (rw [if_pos (by decide +kernel)]; kernel_rfl) | (rw [if_neg (by decide +kernel)]; exact ⟨rfl, rfl⟩))
    (fun os started H enc _ F => lowerNeeds_lifted os started H enc F)
end Go.Proofs.Ytibjmibdboamcaa
