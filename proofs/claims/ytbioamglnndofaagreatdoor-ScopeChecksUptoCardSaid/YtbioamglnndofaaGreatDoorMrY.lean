/-
  Whatever the program is, as long as it holds at most 1048576 values (the second form), the Go function ScopeChecks returns true and leaves it as it is. Condition: the table deBruijn64tab of package math/bits holds what the program's text lays (the card ties it).
-/
import Derived.Test.YtbioamglnndofaaGreatDoorMrD
import Derived.Test.YtbioamglnndofaaGreatDoorMrS
import Derived.Test.YtbioamglnndofaaGreatDoorMrA
import Derived.Test.YtbioamglnndofaaGreatDoorMrR
import Derived.OpenShut
import Derived.Deep.DeepHandedRow
import Derived.Lib.LaidTab

set_option linter.unusedVariables false
set_option linter.unusedSimpArgs false
namespace Go.Proofs.YtbioamglnndofaaGreatDoor
open Go.ChangeShapes Go.WideShapes Go.ChangeAt Go.RowKit _root_.Nm
open Go
theorem readProgC : Tryz.prog.readableRec 24 = true := by kernel_rfl
theorem rowProgC : 24 < Tryz.prog.types.size := of_decide_eq_true (by kernel_rfl)

theorem scopeChecks_door (os : Os) (args : Array Value) : laidMetH Tryz.prog [("math/bits.deBruijn64tab", Rows.laid_math_bits_deBruijn64tab)] ((World.doorLaid Tryz.prog 400 os).forCall (fun _ _ => 0) ⟨#[], args, []⟩).memory :=
  laidMetH_of_parts3 (fuel := 8) (laidMet_of_run' 8 (by kernel_rfl) (by kernel_rfl)) (by kernel_rfl) (by kernel_rfl)
theorem scopeChecks_reads (os : Os) {H : Type} (enc : TypeId × Value → H) : ∃ places, DataW.whole enc Tryz.prog ((World.doorLaid Tryz.prog 400 os).forCall (fun _ _ => 0) ⟨#[], #[.agg #[.slice none 0 0]], []⟩).memory Tryz.f3.params.toList Rows.scopeChecksSpec.vars false #[.agg #[.slice none 0 0]].toList 12 = some ([.agg [.nil]], [], places) := 
  ⟨[], by kernel_rfl⟩

set_option maxHeartbeats 4000000 in
set_option maxRecDepth 100000 in
theorem scopeChecks_lifted (os : Os) (started : os.Started) (H : Type) (enc : TypeId × Value → H) (F : Stop.Interp) :
    ReturnsInHanded {} Tryz.checked os 3 .any ((Rows.OpenSpec.upto Rows.scopeChecksSpec).preRow enc Tryz.prog Tryz.f3 Rows.scopeChecksUptoRow.domain false Rows.scopeChecksUptoRow.laid) (((Rows.OpenSpec.upto Rows.scopeChecksSpec).at F).post enc Tryz.prog Tryz.f3 false true false false) := by
  obtain ⟨places, hx⟩ := scopeChecks_reads os enc
  refine returnsInHanded_of_row (C := Tryz.checked) (s := Rows.OpenSpec.upto Rows.scopeChecksSpec) own1 started (by kernel_rfl) Tryz.func3
    (witness_row_at (enc := enc) (C := Tryz.checked) false (World.doorLaid Tryz.prog 400 os) #[.agg #[.slice none 0 0]] rfl (by kernel_rfl) (by kernel_rfl) (by kernel_rfl)
      (OpenSpec.preRow_of_cond 12 hx (by kernel_rfl) (fun k hk => by cases hk; exact decide_eq_true (show Rows.uptoBulkAll _ ≤ 1048576 by simp [Rows.uptoBulkAll, Rows.uptoBulk])) (by kernel_rfl) (scopeChecks_door os _))) ?_
  intro W base args ds gs before hval0 hW _ hcond _ hL _ _
  have hval : ∀ (j : Nat) t v, Tryz.f3.params[j]? = some t → args[j]? = some v → Value.okWide Tryz.prog W .any base t v := hval0
  have hW' := hW
  obtain ⟨p, q, hA0, hV, rfl, hfz, hnd⟩ := hW
  have hA : DataW.TrodAll enc Tryz.prog W 0 (fun _ => true) true Tryz.f3.params.toList args.toList ds p := hA0
  rw [Tryz.params3] at hA hval
  obtain ⟨v0, d0, rfl, rfl, h0⟩ := trodAll_one hA
  obtain ⟨rfl, rfl⟩ := trodVars_none hV
  have hlt : ∀ x ∈ p, x.block < W.heap.size := fun x hx => hW'.lt x (by simpa using hx)
  have hb0 : Rows.uptoBulk d0 ≤ 1048576 := by
    have h1 := of_decide_eq_true (hcond _ rfl)
    exact Nat.le_trans (bulk_partA (by simp)) h1
  obtain ⟨cs, rfl, hsz⟩ := okWide_struct Tryz.underlying24 (hval 0 24 v0 rfl rfl)
  obtain ⟨fuel, hf⟩ := h0
  have hl1 : cs.toList.length = 1 := by
    obtain ⟨_, _, _, hl, _⟩ := trod_struct1 Tryz.underlying24 hf
    exact hl
  obtain ⟨pp, n, c, m, K, G, C, hcs, hc, hSt, hall, hSts, hlen⟩ := open_progA hf hl1 hb0
  have hT := tb_of_laid hL
  have hex : ∀ i (hi : i < n), ∃ q : Int × List ByteArray, StOk W (C i) (K i) q.2 m (G i) ∧ (q.1 = 0 → StR (K i) q.2 m (G i)) ∧ (∀ W', W.grownBy W' none → Calls Tryz.prog 43 #[.agg (C i).toArray] W' fun e w' => e = .returned (.int .i64 q.1) ∧ W'.grownBy w' none) ∧ (∀ W', W.grownBy W' none → Calls Tryz.prog 28 #[.agg (C i).toArray] W' fun e w' => e = .returned (.int .i64 q.1) ∧ W'.grownBy w' none) := fun i hi => by
    obtain ⟨⟨L, h1⟩, h2, h3⟩ := hall i hi
    obtain ⟨x, h4, h5, h6⟩ := stmt_bothW (C i) (K i) L m (G i) W hT h1 h2 h3
    exact ⟨(x, L), h1, h4, h5, h6⟩
  obtain ⟨Q, hQ⟩ : ∃ Q : Nat → Int × List ByteArray, ∀ i (hi : i < n), StOk W (C i) (K i) (Q i).2 m (G i) ∧ ((Q i).1 = 0 → StR (K i) (Q i).2 m (G i)) ∧ (∀ W', W.grownBy W' none → Calls Tryz.prog 43 #[.agg (C i).toArray] W' fun e w' => e = .returned (.int .i64 (Q i).1) ∧ W'.grownBy w' none) ∧ (∀ W', W.grownBy W' none → Calls Tryz.prog 28 #[.agg (C i).toArray] W' fun e w' => e = .returned (.int .i64 (Q i).1) ∧ W'.grownBy w' none) :=
    ⟨fun i => if hi : i < n then Classical.choose (hex i hi) else (0, []), fun i hi => by
      dsimp only
      rw [dif_pos hi]
      exact Classical.choose_spec (hex i hi)⟩
  have hw := scopeChecks_walk pp n c m C K (fun i => (Q i).2) G (fun i => (Q i).1) W hc (fun i hi => StN.of (hSt i hi) (hQ i hi).1) (fun i hi => (hQ i hi).2.2.1) (fun i hi => (hQ i hi).2.2.2) (fun i hi => (hQ i hi).2.1)
  rw [show (#[.slice pp n c] : Array Value) = cs from by rw [← Array.toList_inj]; exact hcs.symm] at hw
  refine hw.mono fun e W' ⟨he, hg⟩ => ?_
  subst he
  have hB := grown_below hg
  exact ⟨_, rfl, _, _, _, [], _, [], hW', trodAll_mk1 (shut_bool Tryz.underlying4 true),
    trodAll_mk1 (Below.trod laidOut1 readProgC rowProgC ⟨fuel, hf⟩ hB fun x hx => hlt x (by simp [hx])), rfl, hB.frame _, fun h => by cases h⟩

set_option maxHeartbeats 4000000 in
theorem scopeChecks_said : Rows.ScopeChecksUptoSaid :=
  OpenClaim.holds_of_cond 3 Tryz.f3 rfl rfl rfl rfl rfl rfl rfl ⟨rfl, rfl, rfl, rfl, rfl⟩ rfl rfl rfl rfl rfl (by as_aux_lemma => kernel_rfl) Tryz.func3 (by as_aux_lemma => kernel_rfl)
    (of_decide_eq_true (by as_aux_lemma => kernel_rfl)) (by unfold Func.isWrapper; first | (rw [if_pos (by as_aux_lemma => decide +kernel)]; as_aux_lemma => kernel_rfl) | (rw [if_neg (by decide +kernel)]; exact ⟨rfl, rfl⟩))
    (fun os started H enc _ F => by rw [OpenClaim.pre_eq_preRow]; exact scopeChecks_lifted os started H enc F)

theorem scopeChecks_plain (f : FuncId) (fn : Func) (hf : Tryz.pinned.checked.prog.funcNamed "geoprover/geoproverlaw19.ScopeChecks" = some f) (hfn : Tryz.pinned.checked.prog.funcs[f]? = some fn) :
    false = Tryz.pinned.checked.prog.looks [] ∧ ∀ (j : Nat) t, fn.params[j]? = some t → Tryz.pinned.checked.prog.wantsStandIn t = false := by
  obtain rfl : f = 3 := Option.some.inj ((show Tryz.prog.funcNamed "geoprover/geoproverlaw19.ScopeChecks" = some 3 by kernel_rfl).symm.trans hf) |>.symm
  obtain rfl : fn = Tryz.f3 := (Option.some.inj (Tryz.func3.symm.trans hfn)).symm
  refine ⟨by kernel_rfl, fun j t ht => ?_⟩
  rw [Tryz.params3] at ht
  have hm := Array.mem_of_getElem? ht
  simp at hm
  subst hm
  exact (show Tryz.prog.wantsStandIn 24 = false by kernel_rfl)
set_option maxHeartbeats 4000000 in
theorem scopeChecks_cardUpto : Rows.ScopeChecksUptoCardSaid :=
  Claim7.holds_tied_plain_at .later [] _ _ _ _ scopeChecks_said (fun _ h => by cases h) (by as_aux_lemma => kernel_rfl) (fun _ h => by cases h) scopeChecksUpto_row_tie rfl ⟨rfl, rfl⟩ (by as_aux_lemma => kernel_rfl) rfl scopeChecks_plain (by as_aux_lemma => kernel_rfl)

end Go.Proofs.YtbioamglnndofaaGreatDoor
