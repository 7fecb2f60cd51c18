/-
  Whatever the two expressions and the number are, as long as they hold at most 1048576 values (the second form), the Go function AstEqual returns true and leaves them as they are. No conditions.
-/
import Derived.Test.YtolpcclobmgneaaEqG
import Derived.Test.YtolpcclobmgneaaAstW
import Derived.Test.YtolpcclobmgneaaFrmL
import Derived.Test.YtolpcclobmgneaaRows
import Derived.WalkKit
import Derived.ProofKit
import Derived.OpenShut
import Derived.JoinedCond
set_option linter.unusedVariables false
set_option linter.unusedSimpArgs false
namespace Go.Proofs.Ytolpcclobmgneaa
open Go.ChangeShapes Go.WideShapes Go.ChangeAt Go.RowKit _root_.Nm
theorem readExprA : Try.prog.readableRec 30 = true := by kernel_rfl
theorem rowExprA : 30 < Try.prog.types.size := of_decide_eq_true (by kernel_rfl)
set_option maxRecDepth 100000 in
theorem astEqual_lifted (os : Os) (started : os.Started) (H : Type) (enc : TypeId × Value → H) (F : Stop.Interp) :
    ReturnsInHanded {} Try.checked os 3 .any ((Rows.OpenSpec.upto Rows.astEqualSpec).pre6 enc Try.prog Try.f3 Rows.astEqualUptoRow.domain false) (((Rows.OpenSpec.upto Rows.astEqualSpec).at F).post enc Try.prog Try.f3 false true false false) := by
  refine returnsInHanded_of_cond (C := Try.checked) (s := Rows.OpenSpec.upto Rows.astEqualSpec) (k := Rows.uptoSmall) rfl ownL started (by kernel_rfl) Try.func3
    (OpenSpec.witness (enc := enc) (C := Try.checked) (s := Rows.OpenSpec.upto Rows.astEqualSpec) (k := Rows.uptoSmall) rfl false ⟨#[], #[.agg #[.int .i64 0, .string ⟨#[]⟩, .bool false, .slice none 0 0, .slice none 0 0, .slice none 0 0, .int .i64 0], .agg #[.int .i64 0, .string ⟨#[]⟩, .bool false, .slice none 0 0, .slice none 0 0, .slice none 0 0, .int .i64 0], .int .i64 0], []⟩ 12 (by kernel_rfl) (by kernel_rfl) (by kernel_rfl)
      (x := ([.agg [.lit (.int .i64 0), .lit (.string []), .agg [.agg [.lit (.bool false), .nil], .nil], .nil, .lit (.int .i64 0)], .agg [.lit (.int .i64 0), .lit (.string []), .agg [.agg [.lit (.bool false), .nil], .nil], .nil, .lit (.int .i64 0)], .lit (.int .i64 0)], [], [])) (by kernel_rfl) (by kernel_rfl) (by kernel_rfl)) ?_
  intro W base args ds gs before hval0 hW _ hk _
  have hval : ∀ (j : Nat) t v, Try.f3.params[j]? = some t → args[j]? = some v → Value.okWide Try.prog W .any base t v := hval0
  have hW' := hW
  obtain ⟨p, q, hA0, hV, rfl, hfz, hnd⟩ := hW
  have hA : DataW.TrodAll enc Try.prog W 0 (fun _ => true) true Try.f3.params.toList args.toList ds p := hA0
  rw [Try.params3] at hA hval
  obtain ⟨v0, v1, v2, d0, d1, d2, p0, p1, p2, rfl, rfl, rfl, h0, h1, h2⟩ := trodAll_three hA
  obtain ⟨rfl, rfl⟩ := trodVars_none hV
  have hlt : ∀ x ∈ p0 ++ (p1 ++ p2), x.block < W.heap.size := fun x hx => hW'.lt x (by simpa using hx)
  have hb0 : Rows.uptoBulk d0 ≤ 1048576 := by
    have h1 := of_decide_eq_true hk
    exact Nat.le_trans (bulk_partA (by simp)) h1
  obtain ⟨cs, rfl, hsz⟩ := okWide_struct Try.underlying30 (hval 0 30 v0 rfl rfl)
  obtain ⟨cs1, rfl, hsz1⟩ := okWide_struct Try.underlying30 (hval 1 30 v1 rfl rfl)
  obtain ⟨x2, rfl, rfl, rfl, ws2⟩ := open_int Try.underlying3 (hval 2 3 v2 rfl rfl) h2
  obtain ⟨fuel, hf⟩ := h0
  obtain ⟨fuel1, hf1⟩ := h1
  obtain ⟨t, hE, hl, _⟩ := open_exprW fuel cs.toList _ hf
  obtain ⟨t1, hE1, _, _⟩ := open_exprW fuel1 cs1.toList _ hf1
  have hw := astEqual_walk ((fuel + 1) / 2) ((fuel1 + 1) / 2) cs.toList cs1.toList t t1 x2 W hE hE1 (Nat.le_trans hl hb0)
  refine hw.mono fun e W' ⟨he, hg⟩ => ?_
  subst he
  have hB := grown_below hg
  exact ⟨_, rfl, _, _, _, [], _, [], hW', trodAll_mk1 (shut_bool Try.underlying4 true),
    trodAll_mk3 (Below.trod laidOutL readExprA rowExprA ⟨fuel, hf⟩ hB fun x hx => hlt x (by simp [hx])) (Below.trod laidOutL readExprA rowExprA ⟨fuel1, hf1⟩ hB fun x hx => hlt x (by simp [hx])) (shut_int Try.underlying3 ws2), rfl, hB.frame _, fun h => by cases h⟩

theorem astEqual_holds : Rows.AstEqualUptoSaid :=
  OpenClaim.holds_of_cond 3 Try.f3 rfl rfl rfl rfl rfl rfl rfl ⟨rfl, rfl, rfl, rfl, rfl⟩ rfl rfl rfl rfl rfl (by kernel_rfl) Try.func3 (by kernel_rfl)
    (of_decide_eq_true (by kernel_rfl)) (by unfold Func.isWrapper; first | (rw [if_pos (by decide +kernel)]; kernel_rfl) | (rw [if_neg (by decide +kernel)]; exact ⟨rfl, rfl⟩))
    (fun os started H enc _ F => astEqual_lifted os started H enc F)
end Go.Proofs.Ytolpcclobmgneaa
