/-
  Whatever the program and the place are, as long as the program holds at most 1048576 values and bytes (the second form), the Go function PrinterLines returns true and leaves it as it is. Condition: the tables of packages math/bits and internal/strconv hold what the program's text lays (the card ties them).
-/
import Derived.Test.YtiaonbofkgkdhaaGreatDoorMrN
import Derived.Test.YtiaonbofkgkdhaaGreatDoorMrX
import Derived.Test.YtiaonbofkgkdhaaGreatDoorMrA
import Derived.OpenShut
import Derived.Deep.DeepHandedRow
import Derived.Lib.LaidTab

set_option linter.unusedVariables false
set_option linter.unusedSimpArgs false
namespace Go.Proofs.YtiaonbofkgkdhaaGreatDoor
open Go.ChangeShapes Go.WideShapes Go.ChangeAt Go.RowKit _root_.Nm
open Go
theorem readProgC : Tryz.prog.readableRec 38 = true := by kernel_rfl
theorem rowProgC : 38 < Tryz.prog.types.size := of_decide_eq_true (by kernel_rfl)

theorem printerLines_door (os : Os) (args : Array Value) : laidMetH Tryz.prog [("math/bits.deBruijn32tab", Rows.laid_math_bits_deBruijn32tab), ("math/bits.deBruijn64tab", Rows.laid_math_bits_deBruijn64tab), ("internal/strconv.uint64pow10", Rows.laid_internal_strconv_uint64pow10)] ((World.doorLaid Tryz.prog 400 os).forCall (fun _ _ => 0) ⟨#[], args, []⟩).memory :=
  laidMetH_of_parts3 (fuel := 8) (laidMet_of_run' 8 (by kernel_rfl) (by kernel_rfl)) (by kernel_rfl) (by kernel_rfl)
theorem printerLines_reads (os : Os) {H : Type} (enc : TypeId × Value → H) : ∃ places, DataW.whole enc Tryz.prog ((World.doorLaid Tryz.prog 400 os).forCall (fun _ _ => 0) ⟨#[], #[.agg #[.slice none 0 0], .int .u8 0], []⟩).memory Tryz.f7.params.toList Rows.printerLinesSpec.vars false #[.agg #[.slice none 0 0], .int .u8 0].toList 12 = some ([.agg [.nil], .lit (.int .u8 0)], [], places) := 
  ⟨[], by kernel_rfl⟩

set_option maxHeartbeats 4000000 in
set_option maxRecDepth 100000 in
theorem printerLines_lifted (os : Os) (started : os.Started) (H : Type) (enc : TypeId × Value → H) (F : Stop.Interp) :
    ReturnsInHanded {} Tryz.checked os 7 .any ((Rows.OpenSpec.upto Rows.printerLinesSpec).preRow enc Tryz.prog Tryz.f7 Rows.printerLinesUptoRow.domain false Rows.printerLinesUptoRow.laid) (((Rows.OpenSpec.upto Rows.printerLinesSpec).at F).post enc Tryz.prog Tryz.f7 false true false false) := by
  obtain ⟨places, hx⟩ := printerLines_reads os enc
  refine returnsInHanded_of_row (C := Tryz.checked) (s := Rows.OpenSpec.upto Rows.printerLinesSpec) own1 started (by kernel_rfl) Tryz.func7
    (witness_row_at (enc := enc) (C := Tryz.checked) false (World.doorLaid Tryz.prog 400 os) #[.agg #[.slice none 0 0], .int .u8 0] rfl (by kernel_rfl) (by kernel_rfl) (by kernel_rfl)
      (OpenSpec.preRow_of_cond 12 hx (by kernel_rfl) (fun k hk => by cases hk; exact decide_eq_true (show Rows.uptoBulkAll _ ≤ 1048576 by simp [Rows.uptoBulkAll, Rows.uptoBulk])) (by kernel_rfl) (printerLines_door os _))) ?_
  intro W base args ds gs before hval0 hW _ hcond _ hL _ _
  have hval : ∀ (j : Nat) t v, Tryz.f7.params[j]? = some t → args[j]? = some v → Value.okWide Tryz.prog W .any base t v := hval0
  have hW' := hW
  obtain ⟨p, q, hA0, hV, rfl, hfz, hnd⟩ := hW
  have hA : DataW.TrodAll enc Tryz.prog W 0 (fun _ => true) true Tryz.f7.params.toList args.toList ds p := hA0
  rw [Tryz.params7] at hA hval
  obtain ⟨v0, v1, d0, d1, p0, p1, rfl, rfl, rfl, h0, h1⟩ := trodAll_two hA
  obtain ⟨rfl, rfl⟩ := trodVars_none hV
  have hlt : ∀ x ∈ p0 ++ p1, x.block < W.heap.size := fun x hx => hW'.lt x (by simpa using hx)
  have hb0 : Rows.uptoBulk d0 ≤ 1048576 := by
    have h1 := of_decide_eq_true (hcond _ rfl)
    exact Nat.le_trans (bulk_partA (by simp)) h1
  obtain ⟨cs, rfl, hsz⟩ := okWide_struct Tryz.underlying38 (hval 0 38 v0 rfl rfl)
  obtain ⟨x1, rfl, rfl, rfl, ws1⟩ := open_int Tryz.underlying5 (hval 1 5 v1 rfl rfl) h1
  have hx1 : 0 ≤ x1 ∧ x1 ≤ 255 := by simpa [Lit.wf, IntKind.min, IntKind.max, IntKind.signed, IntKind.bits] using ws1
  obtain ⟨kk, rfl⟩ : ∃ kk : Nat, x1 = (kk : Int) := ⟨x1.toNat, by omega⟩
  obtain ⟨fuel, hf⟩ := h0
  have hl1 : cs.toList.length = 1 := by
    obtain ⟨_, _, _, hl, _⟩ := trod_struct1 Tryz.underlying38 hf
    exact hl
  obtain ⟨pp, n, c, m, K, G, C, hcs, hc, hSt, hall⟩ := open_progP hf hl1 hb0
  have hw := printerLines_walk pp n c m kk (by omega) K G C W (tb_of_laid5 hL) (tp_of_laid hL) hc hSt hall
  rw [show (#[.slice pp n c] : Array Value) = cs from by rw [← Array.toList_inj]; exact hcs.symm] at hw
  refine hw.mono fun e W' ⟨he, hg⟩ => ?_
  subst he
  have hB := grown_below hg
  exact ⟨_, rfl, _, _, _, [], _, [], hW', trodAll_mk1 (shut_bool Tryz.underlying4 true),
    trodAll_mk2 (Below.trod laidOut1 readProgC rowProgC ⟨fuel, hf⟩ hB fun x hx => hlt x (by simp [hx])) (shut_int Tryz.underlying5 ws1), rfl, hB.frame _, fun h => by cases h⟩

set_option maxHeartbeats 4000000 in
theorem printerLines_said : Rows.PrinterLinesUptoSaid :=
  OpenClaim.holds_of_cond 7 Tryz.f7 rfl rfl rfl rfl rfl rfl rfl ⟨rfl, rfl, rfl, rfl, rfl⟩ rfl rfl rfl rfl rfl (by as_aux_lemma => kernel_rfl) Tryz.func7 (by as_aux_lemma => kernel_rfl)
    (of_decide_eq_true (by as_aux_lemma => kernel_rfl)) (by unfold Func.isWrapper; first | (rw [if_pos (by as_aux_lemma => decide +kernel)]; as_aux_lemma => kernel_rfl) | (rw [if_neg (by decide +kernel)]; exact ⟨rfl, rfl⟩))
    (fun os started H enc _ F => by rw [OpenClaim.pre_eq_preRow]; exact printerLines_lifted os started H enc F)

theorem printerLines_plain (f : FuncId) (fn : Func) (hf : Tryz.pinned.checked.prog.funcNamed "geoprover/geoproverlaw18.PrinterLines" = some f) (hfn : Tryz.pinned.checked.prog.funcs[f]? = some fn) :
    false = Tryz.pinned.checked.prog.looks [] ∧ ∀ (j : Nat) t, fn.params[j]? = some t → Tryz.pinned.checked.prog.wantsStandIn t = false := by
  obtain rfl : f = 7 := Option.some.inj ((show Tryz.prog.funcNamed "geoprover/geoproverlaw18.PrinterLines" = some 7 by kernel_rfl).symm.trans hf) |>.symm
  obtain rfl : fn = Tryz.f7 := (Option.some.inj (Tryz.func7.symm.trans hfn)).symm
  refine ⟨by kernel_rfl, fun j t ht => ?_⟩
  rw [Tryz.params7] at ht
  have hm := Array.mem_of_getElem? ht
  simp at hm
  obtain rfl | rfl := hm
  · exact (show Tryz.prog.wantsStandIn 38 = false by kernel_rfl)
  · exact (show Tryz.prog.wantsStandIn 5 = false by kernel_rfl)
set_option maxHeartbeats 4000000 in
theorem printerLines_cardUpto : Rows.PrinterLinesUptoCardSaid :=
  Claim7.holds_tied_plain_at .later [] _ _ _ _ printerLines_said (fun _ h => by cases h) (by as_aux_lemma => kernel_rfl) (fun _ h => by cases h) printerLinesUpto_row_tie rfl ⟨rfl, rfl⟩ (by as_aux_lemma => kernel_rfl) rfl printerLines_plain (by as_aux_lemma => kernel_rfl)

end Go.Proofs.YtiaonbofkgkdhaaGreatDoor
