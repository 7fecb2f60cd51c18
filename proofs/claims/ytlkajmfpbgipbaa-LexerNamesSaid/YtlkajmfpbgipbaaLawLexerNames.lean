/-
  Whatever the string is, the Go function LexerNames returns true and leaves it as it is. No conditions.
-/
import Derived.Test.YtlkajmfpbgipbaaLexR
import Derived.Deep.RegionHeld3
import Derived.Laws.Concat
import Derived.Test.YtlkajmfpbgipbaaFrmL
import Derived.Test.YtlkajmfpbgipbaaRows
import Derived.WalkKit
import Derived.ProofKit
import Derived.OpenShut
import Derived.ShutString
import Derived.ChangeMaps5
set_option linter.unusedVariables false
set_option linter.unusedSimpArgs false
namespace Go.Proofs.Ytlkajmfpbgipbaa
open Go.ChangeShapes Go.WideShapes Go.ChangeAt Go.RowKit Go.ChangeMaps _root_.Nm Lx

theorem isName_f (s : ByteArray) (l : List UInt8) (hl : s.data.toList = l) (hmax : l.length ≤ 9223372036854775807) (b : Bool) (hb : isNm l = b) (w : World) :
    Calls Try.prog 17 #[.string s] w fun e w' => e = .returned (.bool b) ∧ w.grownBy w' none := by
  subst hb
  exact isName_any s l hl hmax w
theorem kwAt_len (k : Nat) : (kwAt k).length ≤ 100 := by
  by_cases h : k < 29
  · exact of_decide_eq_true (allB_spec (p := fun k => decide ((kwAt k).length ≤ 100)) (n := 29) (by kernel_rfl) k h)
  · unfold kwAt
    rw [List.getD_eq_getElem?_getD, List.getElem?_eq_none (show kws.length ≤ k by rw [kws_len]; omega)]
    simp
set_option maxHeartbeats 8000000 in
set_option maxRecDepth 100000 in
theorem lexerNames_walk (s : ByteArray) (w : World) (hs : s.size ≤ maxLen) :
    Calls Try.prog 4 #[.string s] w fun e w' => e = .returned (.bool true) ∧ w.grownBy w' none := by
  have hsz : s.size = s.data.toList.length := Lib.size_eq s
  have HK1 := hid rkeywords_any
  have HK2 := hid keywords_any
  have HI1 := hid fun w => isName_any s _ rfl (by unfold maxLen at hs; omega) w
  have HI2 := hid fun w => rIsName_any s _ rfl w
  generalize isNm s.data.toList = V at *
  clear hs hsz
  go_enter Try.func4, Try.ntmps4
  go_wp2_with fail
  refine (HK1.out _).mono ?_
  rintro e w1 ⟨b1, rfl, hb1, hcl1, hg1⟩
  have HC1 := hid hcl1
  clear hcl1
  go_wp2_with fail
  refine (HK2.out _).mono ?_
  rintro e w2 ⟨b2, rfl, hb2, hcl2, hg2⟩
  have HC2 := hid hcl2
  clear hcl2
  have hz2 := hg2.size
  have hG := grown_trans hg1 hg2
  have HC1' : Hid (∀ j, j < 29 → w2.cell? ⟨b1, j, none⟩ = some (.string ⟨(kwAt j).toArray⟩)) := hid fun j hj => hg2.cell (HC1.out j hj) (by simp)
  clear hg1 hg2 hb1 hb2 HC1 HK1 HK2
  go_wp2_with fail
  go_loopw [15] (fun x wr => ∃ k : Nat, k ≤ 29 ∧ x = .int .i64 k ∧ w2.grownBy wr none) (fun x _ => 29 - (intOf x).toNat)
  case atStart => exact ⟨0, Nat.zero_le _, rfl, grown_refl _ _⟩
  case round =>
    obtain ⟨k, hk, rfl, hW⟩ := hrel
    by_cases hlt : k < 29
    · have c1 := hW.cell (HC1'.out k hlt) (by simp)
      have c2 := hW.cell (HC2.out k hlt) (by simp)
      obtain ⟨d, hd⟩ : ∃ d, d = (⟨(kwAt k).toArray⟩ : ByteArray) := ⟨_, rfl⟩
      rw [← hd] at c1 c2
      have HN1 := hid fun w => isName_f d (kwAt k) (by rw [hd]) (by have := kwAt_len k; omega) false (kw_names k hlt) w
      obtain ⟨d1, hd1⟩ : ∃ d1, d1 = d ++ ⟨#[49]⟩ := ⟨_, rfl⟩
      have hadd : ∀ w, (Op.stringOp .add d ⟨#[49]⟩).run Try.prog w = .ok (.string d1) w := fun w => by
        rw [hd1]
        refine run_string_add_sum w d ⟨#[49]⟩ ?_
        have := kwAt_len k
        rw [Lib.size_eq d, hd]
        show (kwAt k).length + 1 ≤ _
        omega
      have HN2 := hid fun w => isName_f d1 (kwAt k ++ [49]) (by rw [hd1, hd]; simp) (by have := kwAt_len k; simp; omega) true (kw_more k hlt) w
      clear hd hd1
      go_wp2_with fail
      go_region_held3 (fun w' => w'.cell? ⟨b1, k, none⟩ = some (.string d) ∧ w'.cell? ⟨b2, k, none⟩ = some (.string d))
        ((try go_split_ands) <;> (repeat' apply And.intro) <;> (repeat (first | (with_reducible assumption) | (with_reducible refine hg5.cell ?_ (by simp)) | (with_reducible refine hg6.cell ?_ (by simp)) | (with_reducible refine (grown_drew _ none).cell ?_ (by simp)))))
        (first
          | (go_at_call 17; (with_reducible refine (HN1.out _).mono ?_); rintro e w5 ⟨rfl, hg5⟩)
          | (go_at_call 17; (with_reducible refine (HN2.out _).mono ?_); rintro e w6 ⟨rfl, hg6⟩))
      all_goals
        go_wp2_with fail
        exact ⟨⟨k + 1, by omega, rfl, grown_trans hW (grown_trans (grown_trans (grown_drew _ none) hg5) hg6)⟩, by simp [intOf]; omega⟩
    · obtain rfl : k = 29 := by omega
      go_wp2_with (first | (go_at_call 17; (with_reducible refine (HI1.out _).mono ?_); rintro e w5 ⟨rfl, hg5⟩) | (go_at_call 18; (with_reducible refine (HI2.out _).mono ?_); rintro e w6 ⟨rfl, hg6⟩))
      go_ret
      exact ⟨by simp, grown_trans hG (grown_trans hW (grown_trans hg5 hg6))⟩

set_option maxRecDepth 100000 in
theorem lexerNames_lifted (os : Os) (started : os.Started) (H : Type) (enc : TypeId × Value → H) :
    ReturnsInHanded {} Try.checked os 4 .any (Rows.lexerNamesSpec.pre6 enc Try.prog Try.f4 Rows.lexerNamesRow.domain false) (Rows.lexerNamesSpec.post enc Try.prog Try.f4 false true false false) := by
  refine returnsInHanded_of_change (C := Try.checked) ownL started (by kernel_rfl) Try.func4
    (ChangeSpec.witness6 (enc := enc) (C := Try.checked) false ⟨#[], #[.string ⟨#[]⟩], []⟩ 8 (by kernel_rfl) (by kernel_rfl) (by kernel_rfl) (by kernel_rfl)) ?_
  intro W base args ds gs before hval0 hW hcnd _
  have hval : ∀ (j : Nat) t v, Try.f4.params[j]? = some t → args[j]? = some v → Value.okWide Try.prog W .any base t v := hval0
  have hW' := hW
  obtain ⟨p, q, hA0, hV, rfl, hfz, hnd⟩ := hW
  have hA : DataW.TrodAll enc Try.prog W 0 (fun _ => true) true Try.f4.params.toList args.toList ds p := hA0
  rw [Try.params4] at hA hval
  obtain ⟨v0, d0, rfl, rfl, h0⟩ := trodAll_one hA
  obtain ⟨rfl, rfl⟩ := trodVars_none hV
  obtain ⟨x0, rfl, rfl, rfl, ws0⟩ := open_string Try.underlying9 (hval 0 9 v0 rfl rfl) h0
  refine (lexerNames_walk x0 W ws0).mono fun e W' ⟨he, hg⟩ => ?_
  subst he
  have hB := grown_below hg
  exact ⟨_, rfl, _, _, _, [], _, [], hW', trodAll_mk1 (shut_bool Try.underlying4 true),
    trodAll_mk1 (shut_string Try.underlying9 ws0), rfl, hB.frame _, fun h => by cases h⟩

theorem lexerNames_holds : Rows.LexerNamesSaid :=
  OpenClaim.holds_of_wide 4 Try.f4 rfl rfl rfl rfl rfl rfl rfl ⟨rfl, rfl, rfl, rfl, rfl⟩ rfl rfl rfl rfl rfl (by kernel_rfl) Try.func4 (by kernel_rfl)
    (of_decide_eq_true (by kernel_rfl)) (by unfold Func.isWrapper; first | (rw [if_pos (by decide +kernel)]; kernel_rfl) | (rw [if_neg (by decide +kernel)]; exact ⟨rfl, rfl⟩))
    (fun os started H enc _ => lexerNames_lifted os started H enc)
end Go.Proofs.Ytlkajmfpbgipbaa
