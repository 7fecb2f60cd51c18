/-
  Whatever the string is, the Go function LexerPrefixes returns true and leaves it as it is. No conditions.
-/
import Derived.Test.YtlkajmfpbgipbaaLexO
import Derived.Test.YtlkajmfpbgipbaaFrmL
import Derived.Test.YtlkajmfpbgipbaaRows
import Derived.WalkKit
import Derived.ProofKit
import Derived.OpenShut
import Derived.ShutString
import Derived.ChangeMaps5
set_option linter.unusedVariables false
set_option linter.unusedSimpArgs false
namespace Go.Proofs.Ytlkajmfpbgipbaa
open Go.ChangeShapes Go.WideShapes Go.ChangeAt Go.RowKit Go.ChangeMaps _root_.Nm Lx

theorem slice_t (s : ByteArray) (l : List UInt8) (hl : s.data.toList = l) (k : Nat) (hk : k ≤ l.length) (w : World) :
    (Instr.slice 9 (.string s) none (some (.int .i64 (k : Int))) none).run Try.prog w = .ok (.string ⟨(l.take k).toArray⟩) w := by
  subst hl
  have hk' : k ≤ s.size := by rw [Lib.size_eq]; exact hk
  rw [run_slice_string_to_if w 9 s .i64 (k : Int) (by kernel_rfl), if_pos ⟨by omega, by omega⟩, Int.toNat_natCast, Lib.extract_eq]
  simp
set_option maxHeartbeats 4000000 in
theorem lexerPrefixes_walk (s : ByteArray) (w : World) (hs : s.size ≤ maxLen) :
    Calls Try.prog 7 #[.string s] w fun e w' => e = .returned (.bool true) ∧ w.grownBy w' none := by
  have hsz : s.size = s.data.toList.length := Lib.size_eq s
  have H1 := hid (lexAll_any s _ rfl w)
  have HAW := hid awake_any
  by_cases hE : (lexAll s.data.toList).2.2 = 0 ∨ (lexAll s.data.toList).2.1 = 0
  · have hA : (lexAll s.data.toList).2.1 = 0 := hE.elim lexAll_zero id
    generalize s.data.toList = l at *
    obtain ⟨R, hR⟩ : ∃ R, R = lexAll l := ⟨_, rfl⟩
    unfold AllP at H1
    rw [hA] at H1
    generalize (lexAll l).2.2 = B at *
    generalize (lexAll l).1 = L at *
    clear hs hA hE hR R
    go_enter Try.func7, Try.ntmps7
    go_wp2_with fail
    refine H1.out.mono ?_
    rintro e w1 ⟨p1, n1, c1, rfl, h1, hg1⟩
    clear h1
    go_wp2_with (go_at_call 20; (with_reducible refine (HAW.out _).mono ?_); rintro e w2 ⟨rfl, hg2⟩)
    all_goals
      go_ret
      exact ⟨rfl, grown_trans hg1 hg2⟩
  · have hE1 : (lexAll s.data.toList).2.2 ≠ 0 := fun e => hE (.inl e)
    have hE2 : (lexAll s.data.toList).2.1 ≠ 0 := fun e => hE (.inr e)
    obtain ⟨hlt, hP⟩ := lexAll_prefix hE1 hE2
    have hsl := slice_t s _ rfl _ (Nat.le_of_lt hlt)
    have H2 := hid fun w => lexAll_any ⟨(s.data.toList.take (lexAll s.data.toList).2.1).toArray⟩ (s.data.toList.take (lexAll s.data.toList).2.1) rfl w
    unfold AllP at H1 H2
    rw [hP] at H2
    generalize s.data.toList = l at *
    generalize hA : (lexAll l).2.1 = A at *
    generalize hB : (lexAll l).2.2 = B at *
    generalize (lexAll l).1 = L at *
    generalize (lexAll (l.take A)).2.1 = A2 at *
    generalize (lexAll (l.take A)).1 = L2 at *
    have e1 : ((B : Int) == 0) = false := by simpa using (by omega : ¬ (B : Int) = 0)
    have e2 : ((A : Int) == 0) = false := by simpa using (by omega : ¬ (A : Int) = 0)
    clear hs hA hE hB hE1 hE2 hP
    go_enter Try.func7, Try.ntmps7
    go_wp2_with fail
    refine H1.out.mono ?_
    rintro e w1 ⟨p1, n1, c1, rfl, h1, hg1⟩
    clear h1
    go_wp2_with fail
    refine (H2.out _).mono ?_
    rintro e w2 ⟨p2, n2, c2, rfl, h2, hg2⟩
    clear h2
    go_wp2_with (go_at_call 20; (with_reducible refine (HAW.out _).mono ?_); rintro e w3 ⟨rfl, hg3⟩)
    go_ret
    exact ⟨rfl, grown_trans hg1 (grown_trans hg2 hg3)⟩

set_option maxRecDepth 100000 in
theorem lexerPrefixes_lifted (os : Os) (started : os.Started) (H : Type) (enc : TypeId × Value → H) :
    ReturnsInHanded {} Try.checked os 7 .any (Rows.lexerPrefixesSpec.pre6 enc Try.prog Try.f7 Rows.lexerPrefixesRow.domain false) (Rows.lexerPrefixesSpec.post enc Try.prog Try.f7 false true false false) := by
  refine returnsInHanded_of_change (C := Try.checked) ownL started (by kernel_rfl) Try.func7
    (ChangeSpec.witness6 (enc := enc) (C := Try.checked) false ⟨#[], #[.string ⟨#[]⟩], []⟩ 8 (by kernel_rfl) (by kernel_rfl) (by kernel_rfl) (by kernel_rfl)) ?_
  intro W base args ds gs before hval0 hW hcnd _
  have hval : ∀ (j : Nat) t v, Try.f7.params[j]? = some t → args[j]? = some v → Value.okWide Try.prog W .any base t v := hval0
  have hW' := hW
  obtain ⟨p, q, hA0, hV, rfl, hfz, hnd⟩ := hW
  have hA : DataW.TrodAll enc Try.prog W 0 (fun _ => true) true Try.f7.params.toList args.toList ds p := hA0
  rw [Try.params7] at hA hval
  obtain ⟨v0, d0, rfl, rfl, h0⟩ := trodAll_one hA
  obtain ⟨rfl, rfl⟩ := trodVars_none hV
  obtain ⟨x0, rfl, rfl, rfl, ws0⟩ := open_string Try.underlying9 (hval 0 9 v0 rfl rfl) h0
  refine (lexerPrefixes_walk x0 W ws0).mono fun e W' ⟨he, hg⟩ => ?_
  subst he
  have hB := grown_below hg
  exact ⟨_, rfl, _, _, _, [], _, [], hW', trodAll_mk1 (shut_bool Try.underlying4 true),
    trodAll_mk1 (shut_string Try.underlying9 ws0), rfl, hB.frame _, fun h => by cases h⟩

theorem lexerPrefixes_holds : Rows.LexerPrefixesSaid :=
  OpenClaim.holds_of_wide 7 Try.f7 rfl rfl rfl rfl rfl rfl rfl ⟨rfl, rfl, rfl, rfl, rfl⟩ rfl rfl rfl rfl rfl (by kernel_rfl) Try.func7 (by kernel_rfl)
    (of_decide_eq_true (by kernel_rfl)) (by unfold Func.isWrapper; first | (rw [if_pos (by decide +kernel)]; kernel_rfl) | (rw [if_neg (by decide +kernel)]; exact ⟨rfl, rfl⟩))
    (fun os started H enc _ => lexerPrefixes_lifted os started H enc)
end Go.Proofs.Ytlkajmfpbgipbaa
