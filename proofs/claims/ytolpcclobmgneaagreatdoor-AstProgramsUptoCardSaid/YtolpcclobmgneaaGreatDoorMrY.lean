/-
  Whatever the program is, as long as it holds at most 1048576 values (the second form), the Go function AstPrograms returns true and leaves it as it is. Condition: the table deBruijn64tab of package math/bits holds what the program's text lays (the card ties it).
-/
import Derived.Test.YtolpcclobmgneaaGreatDoorMrD
import Derived.Test.YtolpcclobmgneaaGreatDoorMrC
import Derived.Test.YtolpcclobmgneaaGreatDoorMrA
import Derived.Test.YtolpcclobmgneaaGreatDoorMrR
import Derived.OpenShut
import Derived.Deep.DeepHandedRow
import Derived.Lib.LaidTab

set_option linter.unusedVariables false
set_option linter.unusedSimpArgs false
namespace Go.Proofs.YtolpcclobmgneaaGreatDoor
open Go.ChangeShapes Go.WideShapes Go.ChangeAt Go.RowKit _root_.Nm
open Go
theorem readProgC : Tryz.prog.readableRec 37 = true := by kernel_rfl
theorem rowProgC : 37 < Tryz.prog.types.size := of_decide_eq_true (by kernel_rfl)

theorem astPrograms_door (os : Os) (args : Array Value) : laidMetH Tryz.prog [("math/bits.deBruijn64tab", Rows.laid_math_bits_deBruijn64tab)] ((World.doorLaid Tryz.prog 400 os).forCall (fun _ _ => 0) ⟨#[], args, []⟩).memory :=
  laidMetH_of_parts3 (fuel := 8) (laidMet_of_run' 8 (by kernel_rfl) (by kernel_rfl)) (by kernel_rfl) (by kernel_rfl)
theorem astPrograms_reads (os : Os) {H : Type} (enc : TypeId × Value → H) : ∃ places, DataW.whole enc Tryz.prog ((World.doorLaid Tryz.prog 400 os).forCall (fun _ _ => 0) ⟨#[], #[.agg #[.slice none 0 0]], []⟩).memory Tryz.f4.params.toList Rows.astProgramsSpec.vars false #[.agg #[.slice none 0 0]].toList 12 = some ([.agg [.nil]], [], places) := 
  ⟨[], by kernel_rfl⟩

set_option maxHeartbeats 4000000 in
set_option maxRecDepth 100000 in
theorem astPrograms_lifted (os : Os) (started : os.Started) (H : Type) (enc : TypeId × Value → H) (F : Stop.Interp) :
    ReturnsInHanded {} Tryz.checked os 4 .any ((Rows.OpenSpec.upto Rows.astProgramsSpec).preRow enc Tryz.prog Tryz.f4 Rows.astProgramsUptoRow.domain false Rows.astProgramsUptoRow.laid) (((Rows.OpenSpec.upto Rows.astProgramsSpec).at F).post enc Tryz.prog Tryz.f4 false true false false) := by
  obtain ⟨places, hx⟩ := astPrograms_reads os enc
  refine returnsInHanded_of_row (C := Tryz.checked) (s := Rows.OpenSpec.upto Rows.astProgramsSpec) own1 started (by kernel_rfl) Tryz.func4
    (witness_row_at (enc := enc) (C := Tryz.checked) false (World.doorLaid Tryz.prog 400 os) #[.agg #[.slice none 0 0]] rfl (by kernel_rfl) (by kernel_rfl) (by kernel_rfl)
      (OpenSpec.preRow_of_cond 12 hx (by kernel_rfl) (fun k hk => by cases hk; exact decide_eq_true (show Rows.uptoBulkAll _ ≤ 1048576 by simp [Rows.uptoBulkAll, Rows.uptoBulk])) (by kernel_rfl) (astPrograms_door os _))) ?_
  intro W base args ds gs before hval0 hW _ hcond _ hL _ _
  have hval : ∀ (j : Nat) t v, Tryz.f4.params[j]? = some t → args[j]? = some v → Value.okWide Tryz.prog W .any base t v := hval0
  have hW' := hW
  obtain ⟨p, q, hA0, hV, rfl, hfz, hnd⟩ := hW
  have hA : DataW.TrodAll enc Tryz.prog W 0 (fun _ => true) true Tryz.f4.params.toList args.toList ds p := hA0
  rw [Tryz.params4] at hA hval
  obtain ⟨v0, d0, rfl, rfl, h0⟩ := trodAll_one hA
  obtain ⟨rfl, rfl⟩ := trodVars_none hV
  have hlt : ∀ x ∈ p, x.block < W.heap.size := fun x hx => hW'.lt x (by simpa using hx)
  have hb0 : Rows.uptoBulk d0 ≤ 1048576 := by
    have h1 := of_decide_eq_true (hcond _ rfl)
    exact Nat.le_trans (bulk_partA (by simp)) h1
  obtain ⟨cs, rfl, hsz⟩ := okWide_struct Tryz.underlying37 (hval 0 37 v0 rfl rfl)
  obtain ⟨fuel, hf⟩ := h0
  have hl1 : cs.toList.length = 1 := by
    obtain ⟨_, _, _, hl, _⟩ := trod_struct1 Tryz.underlying37 hf
    exact hl
  obtain ⟨pp, n, c, m, K, G, C, hcs, hc, hSt, hall, hSts, hlen⟩ := open_progA hf hl1 hb0
  have hT := tb_of_laid hL
  have hex : ∀ i (hi : i < n), ∃ x : Int, (∀ W', W.grownBy W' none → Calls Tryz.prog 17 #[.agg (C i).toArray] W' fun e w' => e = .returned (.int .i64 x) ∧ W'.grownBy w' none) ∧ (∀ W', W.grownBy W' none → Calls Tryz.prog 18 #[.agg (C i).toArray] W' fun e w' => e = .returned (.int .i64 x) ∧ W'.grownBy w' none) := fun i hi => by
    obtain ⟨⟨L, h1⟩, h2, h3⟩ := hall i hi
    exact stmt_both (C i) (K i) L m (G i) W hT h1 h2 h3
  obtain ⟨X, hX⟩ : ∃ X : Nat → Int, ∀ i (hi : i < n), (∀ W', W.grownBy W' none → Calls Tryz.prog 17 #[.agg (C i).toArray] W' fun e w' => e = .returned (.int .i64 (X i)) ∧ W'.grownBy w' none) ∧ (∀ W', W.grownBy W' none → Calls Tryz.prog 18 #[.agg (C i).toArray] W' fun e w' => e = .returned (.int .i64 (X i)) ∧ W'.grownBy w' none) :=
    ⟨fun i => if hi : i < n then Classical.choose (hex i hi) else 0, fun i hi => by
      dsimp only
      rw [dif_pos hi]
      exact Classical.choose_spec (hex i hi)⟩
  have hw := astPrograms_walk pp n c m K G C X W hc hSts hlen hSt (fun i hi => (hX i hi).1) (fun i hi => (hX i hi).2)
  rw [show (#[.slice pp n c] : Array Value) = cs from by rw [← Array.toList_inj]; exact hcs.symm] at hw
  refine hw.mono fun e W' ⟨he, hg⟩ => ?_
  subst he
  have hB := grown_below hg
  exact ⟨_, rfl, _, _, _, [], _, [], hW', trodAll_mk1 (shut_bool Tryz.underlying4 true),
    trodAll_mk1 (Below.trod laidOut1 readProgC rowProgC ⟨fuel, hf⟩ hB fun x hx => hlt x (by simp [hx])), rfl, hB.frame _, fun h => by cases h⟩

set_option maxHeartbeats 4000000 in
theorem astPrograms_said : Rows.AstProgramsUptoSaid :=
  OpenClaim.holds_of_cond 4 Tryz.f4 rfl rfl rfl rfl rfl rfl rfl ⟨rfl, rfl, rfl, rfl, rfl⟩ rfl rfl rfl rfl rfl (by as_aux_lemma => kernel_rfl) Tryz.func4 (by as_aux_lemma => kernel_rfl)
    (of_decide_eq_true (by as_aux_lemma => kernel_rfl)) (by unfold Func.isWrapper; first | (rw [if_pos (by as_aux_lemma => decide +kernel)]; as_aux_lemma => kernel_rfl) | (rw [if_neg (by decide +kernel)]; exact ⟨rfl, rfl⟩))
    (fun os started H enc _ F => by rw [OpenClaim.pre_eq_preRow]; exact astPrograms_lifted os started H enc F)

theorem astPrograms_plain (f : FuncId) (fn : Func) (hf : Tryz.pinned.checked.prog.funcNamed "geoprover/geoproverlaw16.AstPrograms" = some f) (hfn : Tryz.pinned.checked.prog.funcs[f]? = some fn) :
    false = Tryz.pinned.checked.prog.looks [] ∧ ∀ (j : Nat) t, fn.params[j]? = some t → Tryz.pinned.checked.prog.wantsStandIn t = false := by
  obtain rfl : f = 4 := Option.some.inj ((show Tryz.prog.funcNamed "geoprover/geoproverlaw16.AstPrograms" = some 4 by kernel_rfl).symm.trans hf) |>.symm
  obtain rfl : fn = Tryz.f4 := (Option.some.inj (Tryz.func4.symm.trans hfn)).symm
  refine ⟨by kernel_rfl, fun j t ht => ?_⟩
  rw [Tryz.params4] at ht
  have hm := Array.mem_of_getElem? ht
  simp at hm
  subst hm
  exact (show Tryz.prog.wantsStandIn 37 = false by kernel_rfl)
set_option maxHeartbeats 4000000 in
theorem astPrograms_cardUpto : Rows.AstProgramsUptoCardSaid :=
  Claim7.holds_tied_plain_at .later [] _ _ _ _ astPrograms_said (fun _ h => by cases h) (by as_aux_lemma => kernel_rfl) (fun _ h => by cases h) astProgramsUpto_row_tie rfl ⟨rfl, rfl⟩ (by as_aux_lemma => kernel_rfl) rfl astPrograms_plain (by as_aux_lemma => kernel_rfl)

end Go.Proofs.YtolpcclobmgneaaGreatDoor
