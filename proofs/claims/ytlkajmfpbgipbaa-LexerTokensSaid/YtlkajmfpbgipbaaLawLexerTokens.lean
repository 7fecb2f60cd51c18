/-
  Whatever the string is, the Go function LexerTokens returns true and leaves it as it is. No conditions.
-/
import Derived.Test.YtlkajmfpbgipbaaLexJ
import Derived.Test.YtlkajmfpbgipbaaFrmL
import Derived.Test.YtlkajmfpbgipbaaRows
import Derived.WalkKit
import Derived.ProofKit
import Derived.OpenShut
import Derived.ShutString
import Derived.ChangeMaps5
set_option linter.unusedVariables false
set_option linter.unusedSimpArgs false
namespace Go.Proofs.Ytlkajmfpbgipbaa
open Go.ChangeShapes Go.WideShapes Go.ChangeAt Go.RowKit Go.ChangeMaps _root_.Nm Lx

set_option maxHeartbeats 4000000 in
theorem lexerTokens_walk (s : ByteArray) (w : World) (hs : s.size ≤ maxLen) :
    Calls Try.prog 3 #[.string s] w fun e w' => e = .returned (.bool true) ∧ w.grownBy w' none := by
  have H1 := hid (lexAll_any s _ rfl w)
  have H2 := hid fun w => rAll_any s _ rfl w
  have HC : Hid (∀ r ∈ (lexAll s.data.toList).1.map (cells s.data.toList), ∃ (a b c : Int) (d : ByteArray), r = [.int .i64 a, .int .i64 b, .int .i64 c, .string d]) := hid fun r hr => by
    obtain ⟨t, _, rfl⟩ := List.mem_map.1 hr
    exact ⟨_, _, _, _, rfl⟩
  clear hs
  generalize s.data.toList = l at *
  go_enter Try.func3, Try.ntmps3
  go_wp2_with fail
  refine H1.out.mono ?_
  rintro e w1 ⟨p1, n1, c1, rfl, h1, hg1⟩
  go_wp2_with fail
  refine (H2.out _).mono ?_
  rintro e w2 ⟨p2, n2, c2, rfl, h2, hg2⟩
  replace h1 := h1.keep hg2
  obtain rfl : n1 = n2 := h1.len.symm.trans h2.len
  have HS := hid (sameTok_any p1 p2 n1 c1 c2 _ w2 h1 h2 HC.out)
  have hG := grown_trans hg1 hg2
  clear h1 h2
  generalize (lexAll l).2.1 = A at *
  generalize (lexAll l).2.2 = B at *
  go_wp2_with fail
  refine HS.out.mono ?_
  rintro e w3 ⟨rfl, hg3⟩
  go_wp2_with fail
  go_ret
  exact ⟨rfl, grown_trans hG hg3⟩

set_option maxRecDepth 100000 in
theorem lexerTokens_lifted (os : Os) (started : os.Started) (H : Type) (enc : TypeId × Value → H) :
    ReturnsInHanded {} Try.checked os 3 .any (Rows.lexerTokensSpec.pre6 enc Try.prog Try.f3 Rows.lexerTokensRow.domain false) (Rows.lexerTokensSpec.post enc Try.prog Try.f3 false true false false) := by
  refine returnsInHanded_of_change (C := Try.checked) ownL started (by kernel_rfl) Try.func3
    (ChangeSpec.witness6 (enc := enc) (C := Try.checked) false ⟨#[], #[.string ⟨#[]⟩], []⟩ 8 (by kernel_rfl) (by kernel_rfl) (by kernel_rfl) (by kernel_rfl)) ?_
  intro W base args ds gs before hval0 hW hcnd _
  have hval : ∀ (j : Nat) t v, Try.f3.params[j]? = some t → args[j]? = some v → Value.okWide Try.prog W .any base t v := hval0
  have hW' := hW
  obtain ⟨p, q, hA0, hV, rfl, hfz, hnd⟩ := hW
  have hA : DataW.TrodAll enc Try.prog W 0 (fun _ => true) true Try.f3.params.toList args.toList ds p := hA0
  rw [Try.params3] at hA hval
  obtain ⟨v0, d0, rfl, rfl, h0⟩ := trodAll_one hA
  obtain ⟨rfl, rfl⟩ := trodVars_none hV
  obtain ⟨x0, rfl, rfl, rfl, ws0⟩ := open_string Try.underlying9 (hval 0 9 v0 rfl rfl) h0
  refine (lexerTokens_walk x0 W ws0).mono fun e W' ⟨he, hg⟩ => ?_
  subst he
  have hB := grown_below hg
  exact ⟨_, rfl, _, _, _, [], _, [], hW', trodAll_mk1 (shut_bool Try.underlying4 true),
    trodAll_mk1 (shut_string Try.underlying9 ws0), rfl, hB.frame _, fun h => by cases h⟩

theorem lexerTokens_holds : Rows.LexerTokensSaid :=
  OpenClaim.holds_of_wide 3 Try.f3 rfl rfl rfl rfl rfl rfl rfl ⟨rfl, rfl, rfl, rfl, rfl⟩ rfl rfl rfl rfl rfl (by kernel_rfl) Try.func3 (by kernel_rfl)
    (of_decide_eq_true (by kernel_rfl)) (by unfold Func.isWrapper; first | (rw [if_pos (by decide +kernel)]; kernel_rfl) | (rw [if_neg (by decide +kernel)]; exact ⟨rfl, rfl⟩))
    (fun os started H enc _ => lexerTokens_lifted os started H enc)
end Go.Proofs.Ytlkajmfpbgipbaa
