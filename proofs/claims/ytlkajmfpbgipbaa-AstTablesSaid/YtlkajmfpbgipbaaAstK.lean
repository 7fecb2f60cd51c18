/-
  The walk of AstTables.
-/
import Derived.Test.YtlkajmfpbgipbaaAstE
import Derived.Test.YtlkajmfpbgipbaaAstI
import Derived.Test.YtlkajmfpbgipbaaAstJ
set_option linter.unusedVariables false
set_option linter.unusedSimpArgs false
namespace Go.Proofs.Ytlkajmfpbgipbaa
open Go.RowKit _root_.Nm Ax
set_option maxHeartbeats 8000000 in
set_option maxRecDepth 100000 in
theorem astTables_walk (k : Int) (d : ByteArray) (w : World) :
    Calls Try.prog 8 #[.int .i64 k, .string d] w fun e w' => e = .returned (.bool true) ∧ w.grownBy w' none := by
  have HS := hid (sort_any k)
  have HRS := hid (rsort_any k)
  have HP := hid (params_any k)
  have HRP := hid (rparams_any k)
  have HW := hid (word_any k)
  have HRW := hid (rword_any k)
  have HK := hid (kind_any d)
  have HRK := hid (rkind_any d)
  have HK2 := hid (kind_any ⟨(wrd k).toArray⟩)
  have HRK2 := hid (rkind_any ⟨(wrd k).toArray⟩)
  generalize srt k = s at *
  generalize prm k = P at *
  generalize knd d.toList = m at *
  generalize (⟨(wrd k).toArray⟩ : ByteArray) = u at *
  generalize knd u.toList = m2 at *
  go_enter Try.func8, Try.ntmps8
  go_wp2_with (first | (go_at_call 21; (with_reducible refine (HS.out _).mono ?_); rintro e w1 ⟨rfl, h1⟩) | (go_at_call 22; (with_reducible refine (HRS.out _).mono ?_); rintro e w2 ⟨rfl, h2⟩) | (go_at_call 24; (with_reducible refine (HP.out _).mono ?_); rintro e w3 ⟨p1, n1, c1, rfl, hf1, hr1, h3⟩) | (go_at_call 25; (with_reducible refine (HRP.out _).mono ?_); rintro e w4 ⟨p2, n2, c2, rfl, hf2, hr2, h4⟩; have e1 := hr1.len; have e2 := hr2.len; obtain rfl : n1 = n2 := by omega) | (go_at_call 23; refine (sameInts_any p1 p2 _ c1 c2 _ _ (hr1.keep h4) hr2).mono ?_; rintro e w5 ⟨rfl, h5⟩) | (go_at_call 26; (with_reducible refine (HW.out _).mono ?_); rintro e w6 ⟨rfl, h6⟩) | (go_at_call 27; (with_reducible refine (HRW.out _).mono ?_); rintro e w7 ⟨rfl, h7⟩) | (go_at_call 28; (with_reducible refine (HK.out _).mono ?_); rintro e w8 ⟨rfl, h8⟩) | (go_at_call 29; (with_reducible refine (HRK.out _).mono ?_); rintro e w9 ⟨rfl, h9⟩) | (go_at_call 28; (with_reducible refine (HK2.out _).mono ?_); rintro e w8 ⟨rfl, h8⟩) | (go_at_call 29; (with_reducible refine (HRK2.out _).mono ?_); rintro e w9 ⟨rfl, h9⟩))
  rename_i a1 b1 a2 b2 a3 b3 a4 b4
  go_ret
  exact ⟨rfl, (grown_trans h1 (grown_trans h2 (grown_trans h3 (grown_trans h4 (grown_trans h5 (grown_trans h6 (grown_trans b1 (grown_trans b2 (grown_trans b3 (grown_trans b4 (grown_trans h8 (grown_trans h7 h9))))))))))))⟩
end Go.Proofs.Ytlkajmfpbgipbaa
