/-
  Whatever the figure and the number are, as long as the figure holds at most 1048576 values (the second form), the Go function LowerSmaller returns true and leaves them as they are. Condition: the table deBruijn64tab of package math/bits holds what the program's text lays (the card ties it).
-/
import Derived.Test.YtdmlcddieadelaaGreatDoorMrQ
import Derived.Test.YtdmlcddieadelaaGreatDoorMrF
import Derived.Test.YtdmlcddieadelaaGreatDoorFrmL
import Derived.Test.YtdmlcddieadelaaGreatDoorMrR
import Derived.OpenShut
import Derived.Deep.DeepHandedRow
import Derived.Lib.LaidTab

set_option linter.unusedVariables false
set_option linter.unusedSimpArgs false
namespace Go.Proofs.YtdmlcddieadelaaGreatDoor
open Go.ChangeShapes Go.WideShapes Go.ChangeAt Go.RowKit _root_.Nm
open Go
theorem readFigS : Tryz.prog.readableRec 25 = true := by kernel_rfl
theorem rowFigS : 25 < Tryz.prog.types.size := of_decide_eq_true (by kernel_rfl)

theorem lowerSmaller_door (os : Os) (args : Array Value) : laidMetH Tryz.prog [("math/bits.deBruijn64tab", Rows.laid_math_bits_deBruijn64tab)] ((World.doorLaid Tryz.prog 400 os).forCall (fun _ _ => 0) ⟨#[], args, []⟩).memory :=
  laidMetH_of_parts3 (fuel := 8) (laidMet_of_run' 8 (by kernel_rfl) (by kernel_rfl)) (by kernel_rfl) (by kernel_rfl)
theorem lowerSmaller_reads (os : Os) {H : Type} (enc : TypeId × Value → H) : ∃ places, DataW.whole enc Tryz.prog ((World.doorLaid Tryz.prog 400 os).forCall (fun _ _ => 0) ⟨#[], #[.agg #[.slice none 0 0, .slice none 0 0], .int .i64 0], []⟩).memory Tryz.f3.params.toList Rows.lowerSmallerSpec.vars false #[.agg #[.slice none 0 0, .slice none 0 0], .int .i64 0].toList 12 = some ([.agg [.nil, .nil], .lit (.int .i64 0)], [], places) := 
  ⟨[], by kernel_rfl⟩

set_option maxHeartbeats 4000000 in
set_option maxRecDepth 100000 in
theorem lowerSmaller_lifted (os : Os) (started : os.Started) (H : Type) (enc : TypeId × Value → H) (F : Stop.Interp) :
    ReturnsInHanded {} Tryz.checked os 3 .any ((Rows.OpenSpec.upto Rows.lowerSmallerSpec).preRow enc Tryz.prog Tryz.f3 Rows.lowerSmallerUptoRow.domain false Rows.lowerSmallerUptoRow.laid) (((Rows.OpenSpec.upto Rows.lowerSmallerSpec).at F).post enc Tryz.prog Tryz.f3 false true false false) := by
  obtain ⟨places, hx⟩ := lowerSmaller_reads os enc
  refine returnsInHanded_of_row (C := Tryz.checked) (s := Rows.OpenSpec.upto Rows.lowerSmallerSpec) ownL started (by kernel_rfl) Tryz.func3
    (witness_row_at (enc := enc) (C := Tryz.checked) false (World.doorLaid Tryz.prog 400 os) #[.agg #[.slice none 0 0, .slice none 0 0], .int .i64 0] rfl (by kernel_rfl) (by kernel_rfl) (by kernel_rfl)
      (OpenSpec.preRow_of_cond 12 hx (by kernel_rfl) (fun k hk => by cases hk; exact decide_eq_true (show Rows.uptoBulkAll _ ≤ 1048576 by simp [Rows.uptoBulkAll, Rows.uptoBulk])) (by kernel_rfl) (lowerSmaller_door os _))) ?_
  intro W base args ds gs before hval0 hW _ hcond _ hL _ _
  have hval : ∀ (j : Nat) t v, Tryz.f3.params[j]? = some t → args[j]? = some v → Value.okWide Tryz.prog W .any base t v := hval0
  have hW' := hW
  obtain ⟨p, q, hA0, hV, rfl, hfz, hnd⟩ := hW
  have hA : DataW.TrodAll enc Tryz.prog W 0 (fun _ => true) true Tryz.f3.params.toList args.toList ds p := hA0
  rw [Tryz.params3] at hA hval
  obtain ⟨v0, v1, d0, d1, p0, p1, rfl, rfl, rfl, h0, h1⟩ := trodAll_two hA
  obtain ⟨rfl, rfl⟩ := trodVars_none hV
  have hlt : ∀ x ∈ p0 ++ (p1), x.block < W.heap.size := fun x hx => hW'.lt x (by simpa using hx)
  have hb0 : Rows.uptoBulk d0 ≤ 1048576 := by
    have h1 := of_decide_eq_true (hcond _ rfl)
    exact Nat.le_trans (bulk_partF (by simp)) h1
  obtain ⟨cs, rfl, hsz⟩ := okWide_struct Tryz.underlying25 (hval 0 25 v0 rfl rfl)
  obtain ⟨x1, rfl, rfl, rfl, ws1⟩ := open_int Tryz.underlying3 (hval 1 3 v1 rfl rfl) h1
  obtain ⟨fuel, hf⟩ := h0
  have hl2 : cs.toList.length = 2 := by
    obtain ⟨_, _, _, _, hl, _, _⟩ := trod_struct2 Tryz.underlying25 hf
    rw [show Tryz.prog.cellsOf 25 = 2 from by kernel_rfl] at hl
    exact hl
  obtain ⟨pS, nS, cS, pG, nG, cG, C, P, NA, N1, N2, D, MA, M1, M2, hcs, hcS, hcG, hS, hG⟩ := open_figH hf hb0 hl2
  have hT := tb_of_laid hL
  obtain ⟨x, hx, hx0⟩ := rightRef3 pS nS cS pG nG cG C P NA N1 N2 D MA M1 M2 W hT hcS hcG hS hG
  have hw := lowerSmaller_walk pS nS cS pG nG cG x1 W x hT hcS hcG hx (fun h => by obtain ⟨d, e, h1, h2, h3⟩ := hx0 h; exact SmP.of pS nS cS pG nG cG d e W hcS hcG h1 h2 h3 x1)
  rw [show (#[.slice pS nS cS, .slice pG nG cG] : Array Value) = cs from by rw [← Array.toList_inj]; exact hcs.symm] at hw
  refine hw.mono fun e W' ⟨he, hg⟩ => ?_
  subst he
  have hB := grown_below hg
  exact ⟨_, rfl, _, _, _, [], _, [], hW', trodAll_mk1 (shut_bool Tryz.underlying4 true),
    trodAll_mk2 (Below.trod laidOutL readFigS rowFigS ⟨fuel, hf⟩ hB fun x hx => hlt x (by simp [hx])) (shut_int Tryz.underlying3 ws1), rfl, hB.frame _, fun h => by cases h⟩

set_option maxHeartbeats 4000000 in
theorem lowerSmaller_said : Rows.LowerSmallerUptoSaid :=
  OpenClaim.holds_of_cond 3 Tryz.f3 rfl rfl rfl rfl rfl rfl rfl ⟨rfl, rfl, rfl, rfl, rfl⟩ rfl rfl rfl rfl rfl (by as_aux_lemma => kernel_rfl) Tryz.func3 (by as_aux_lemma => kernel_rfl)
    (of_decide_eq_true (by as_aux_lemma => kernel_rfl)) (by unfold Func.isWrapper; first | (rw [if_pos (by as_aux_lemma => decide +kernel)]; as_aux_lemma => kernel_rfl) | (rw [if_neg (by decide +kernel)]; exact ⟨rfl, rfl⟩))
    (fun os started H enc _ F => by rw [OpenClaim.pre_eq_preRow]; exact lowerSmaller_lifted os started H enc F)

theorem lowerSmaller_plain (f : FuncId) (fn : Func) (hf : Tryz.pinned.checked.prog.funcNamed "geoprover/geoproverlaw20.LowerSmaller" = some f) (hfn : Tryz.pinned.checked.prog.funcs[f]? = some fn) :
    false = Tryz.pinned.checked.prog.looks [] ∧ ∀ (j : Nat) t, fn.params[j]? = some t → Tryz.pinned.checked.prog.wantsStandIn t = false := by
  obtain rfl : f = 3 := Option.some.inj ((show Tryz.prog.funcNamed "geoprover/geoproverlaw20.LowerSmaller" = some 3 by kernel_rfl).symm.trans hf) |>.symm
  obtain rfl : fn = Tryz.f3 := (Option.some.inj (Tryz.func3.symm.trans hfn)).symm
  refine ⟨by kernel_rfl, fun j t ht => ?_⟩
  rw [Tryz.params3] at ht
  have hm := Array.mem_of_getElem? ht
  simp at hm
  rcases hm with rfl | rfl
  · exact (show Tryz.prog.wantsStandIn 25 = false by kernel_rfl)
  · exact (show Tryz.prog.wantsStandIn 3 = false by kernel_rfl)
set_option maxHeartbeats 4000000 in
theorem lowerSmaller_cardUpto : Rows.LowerSmallerUptoCardSaid :=
  Claim7.holds_tied_plain_at .later [] _ _ _ _ lowerSmaller_said (fun _ h => by cases h) (by as_aux_lemma => kernel_rfl) (fun _ h => by cases h) lowerSmallerUpto_row_tie rfl ⟨rfl, rfl⟩ (by as_aux_lemma => kernel_rfl) rfl lowerSmaller_plain (by as_aux_lemma => kernel_rfl)

end Go.Proofs.YtdmlcddieadelaaGreatDoor
