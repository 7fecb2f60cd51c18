/-
  The walk of AstWords.
-/
import Derived.Test.YtlkajmfpbgipbaaAstE
set_option linter.unusedVariables false
set_option linter.unusedSimpArgs false
namespace Go.Proofs.Ytlkajmfpbgipbaa
open Go.RowKit _root_.Nm
open Ax
theorem wrd10 : wrd 10 = [109, 105, 100, 112, 111, 105, 110, 116] := by kernel_rfl
theorem knd10 : knd [109, 105, 100, 112, 111, 105, 110, 116] = 10 := by kernel_rfl
theorem srt10 : srt 10 = 1 := by kernel_rfl
theorem word10 (w : World) : Calls Try.prog 26 #[.int .i64 10] w fun e w' => e = .returned (.string ⟨#[109, 105, 100, 112, 111, 105, 110, 116]⟩) ∧ w.grownBy w' none := by
  have := word_any 10 w
  rw [wrd10] at this
  exact this
theorem kind10 (w : World) : Calls Try.prog 28 #[.string ⟨#[109, 105, 100, 112, 111, 105, 110, 116]⟩] w fun e w' => e = .returned (.int .i64 10) ∧ w.grownBy w' none := by
  have := kind_any ⟨#[109, 105, 100, 112, 111, 105, 110, 116]⟩ w
  rw [Lib.toList_data, show (⟨#[109, 105, 100, 112, 111, 105, 110, 116]⟩ : ByteArray).data.toList = [109, 105, 100, 112, 111, 105, 110, 116] from rfl, knd10] at this
  exact this
theorem sort10 (w : World) : Calls Try.prog 21 #[.int .i64 10] w fun e w' => e = .returned (.int .i64 1) ∧ w.grownBy w' none := by
  have := sort_any 10 w
  rw [srt10] at this
  exact this
set_option maxRecDepth 100000 in
theorem awake16_any (w : World) : Calls Try.prog 40 #[] w fun e w' => e = .returned (.bool true) ∧ w.grownBy w' none := by
  have HW := hid word10
  have HK := hid kind10
  have HS := hid sort10
  go_enter Try.func40, Try.ntmps40
  go_wp2_with (first | (go_at_call 26; (with_reducible refine (HW.out _).mono ?_); rintro e w1 ⟨rfl, h1⟩) | (go_at_call 28; (with_reducible refine (HK.out _).mono ?_); rintro e w2 ⟨rfl, h2⟩) | (go_at_call 21; (with_reducible refine (HS.out _).mono ?_); rintro e w3 ⟨rfl, h3⟩))
  go_ret
  exact ⟨rfl, grown_trans h1 (grown_trans h2 h3)⟩
/-- what the law says of one kind -/
theorem word_one (x : Int) : ∃ d : ByteArray, (d = ⟨(wrd x).toArray⟩ ∧ d.toList = wrd x) ∧ ∀ w, Calls Try.prog 26 #[.int .i64 x] w fun e w' => e = .returned (.string d) ∧ w.grownBy w' none :=
  ⟨⟨(wrd x).toArray⟩, ⟨rfl, by rw [Lib.toList_data]⟩, fun w => word_any x w⟩
theorem pair_cells (w : World) (a b : Value) (T : TypeId) : ∀ k, k < 2 → (w.alloc (.cells #[a, b] T (0, 0))).cell? ⟨w.heap.size, k, none⟩ = some (if k = 0 then a else b) := by
  intro k hk
  have h := cell_of_row (w.alloc (.cells #[a, b] T (0, 0))) w.heap.size k _ _ _ (blk0 w _)
  rw [h]
  have : k = 0 ∨ k = 1 := by omega
  rcases this with rfl | rfl <;> simp
set_option maxHeartbeats 8000000 in
set_option maxRecDepth 100000 in
theorem astWords_walk (a b : Int) (w : World) :
    Calls Try.prog 11 #[.int .i64 a, .int .i64 b] w fun e w' => e = .returned (.bool true) ∧ w.grownBy w' none := by
  have HC := hid fun (a b : Value) (T : TypeId) => pair_cells w a b T
  go_enter Try.func11, Try.ntmps11
  go_wp2_with fail
  have HG := hid (World.grownBy_alloc w (.cells #[.int .i64 a, .int .i64 b] 3 (0, 0)) none)
  have HC' := hid (HC.out (.int .i64 a) (.int .i64 b) 3)
  clear HC
  go_loopw [13] (fun x wr => ∃ k : Nat, k ≤ 2 ∧ x = .int .i64 k ∧ (w.alloc (.cells #[.int .i64 a, .int .i64 b] 3 (0, 0))).grownBy wr none) (fun x _ => 2 - (intOf x).toNat)
  case atStart => exact ⟨0, Nat.zero_le _, rfl, grown_refl _ _⟩
  case round =>
    obtain ⟨k, hk, rfl, hg⟩ := hrel
    by_cases hlt : k < 2
    · have c1 := hg.cell (HC'.out k hlt) (by simp)
      obtain ⟨x, hx⟩ : ∃ x : Int, (if k = 0 then Value.int .i64 a else Value.int .i64 b) = .int .i64 x := by
        by_cases h0 : k = 0
        · exact ⟨a, if_pos h0⟩
        · exact ⟨b, if_neg h0⟩
      rw [hx] at c1
      clear hx
      obtain ⟨d, ⟨hq, hd⟩, hW⟩ := word_one x
      have HW1 := hid hW
      clear hW
      by_cases he : wrd x = []
      · have hem : d.toList.isEmpty = true := by rw [hd, he]; rfl
        clear hd hq
        go_wp2_with (first | (go_at_call 26; (with_reducible refine (HW1.out _).mono ?_); rintro e w1 ⟨rfl, h1⟩))
        exact ⟨⟨k + 1, by omega, by go_num, grown_trans hg h1⟩, by simp [intOf]; omega⟩
      · have hem : d.toList.isEmpty = false := by rw [hd]; cases h : wrd x with | nil => exact absurd h he | cons => rfl
        obtain ⟨hk1, hk2⟩ := knd_wrd x he
        have HK1 := hid fun w => kind_any d w
        rw [hd] at HK1
        obtain ⟨m, hm⟩ : ∃ m, knd (wrd x) = m := ⟨_, rfl⟩
        rw [hm] at HK1 hk1 hk2
        obtain ⟨d2, ⟨hq2, hd2⟩, hW2⟩ := word_one (m : Nat)
        obtain rfl : d2 = d := by rw [hq2, hq, hk2]
        have HW2 := hid hW2
        clear hW2 hd hd2 hm hq hq2
        by_cases hmx : (m : Int) = x
        · subst hmx
          go_wp2_with (first | (go_at_call 26; (with_reducible refine (HW1.out _).mono ?_); rintro e w1 ⟨rfl, h1⟩) | (go_at_call 28; (with_reducible refine (HK1.out _).mono ?_); rintro e w2 ⟨rfl, h2⟩))
          rename_i v1 g1
          exact ⟨⟨k + 1, by omega, by go_num, grown_trans hg (grown_trans g1 (grown_trans h2 h1))⟩, by simp [intOf]; omega⟩
        · go_wp2_with (first | (go_at_call 26; (with_reducible refine (HW1.out _).mono ?_); rintro e w1 ⟨rfl, h1⟩) | (go_at_call 28; (with_reducible refine (HK1.out _).mono ?_); rintro e w2 ⟨rfl, h2⟩) | (go_at_call 26; (with_reducible refine (HW2.out _).mono ?_); rintro e w3 ⟨rfl, h3⟩))
          exact ⟨⟨k + 1, by omega, by go_num, grown_trans hg (grown_trans h1 (grown_trans h2 h3))⟩, by simp [intOf]; omega⟩
    · obtain rfl : k = 2 := by omega
      have hGG := grown_trans HG.out hg
      have HAW := hid awake16_any
      clear HG HC'
      by_cases hab : a = b
      · subst hab
        go_wp2_with (first | (go_at_call 40; (with_reducible refine (HAW.out _).mono ?_); rintro e w9 ⟨rfl, h9⟩))
        go_ret
        exact ⟨rfl, grown_trans hGG h9⟩
      obtain ⟨da, ⟨hqa, hda⟩, hWa⟩ := word_one a
      have HWA := hid hWa
      clear hWa
      by_cases hea : wrd a = []
      · have hem : da.toList.isEmpty = true := by rw [hda, hea]; rfl
        clear hda hqa
        go_wp2_with (first | (go_at_call 26; (with_reducible refine (HWA.out _).mono ?_); rintro e w5 ⟨rfl, h5⟩) | (go_at_call 40; (with_reducible refine (HAW.out _).mono ?_); rintro e w9 ⟨rfl, h9⟩))
        go_ret
        exact ⟨rfl, grown_trans hGG (grown_trans h5 h9)⟩
      obtain ⟨db, ⟨hqb, hdb⟩, hWb⟩ := word_one b
      have hem : da.toList.isEmpty = false := by rw [hda]; cases h : wrd a with | nil => exact absurd h hea | cons => rfl
      have HWB := hid hWb
      clear hWb
      by_cases hne : wrd a = wrd b
      · have hs := wrd_sorts a b hab hea hne
        obtain rfl : da = db := by rw [hqa, hqb, hne]
        have HSA := hid fun w => sort_any a w
        have HSB := hid fun w => sort_any b w
        generalize srt a = sa at *
        generalize srt b = sb at *
        clear hda hqa hdb hqb
        go_wp2_with (first | (go_at_call 26; (with_reducible refine (HWA.out _).mono ?_); rintro e w5 ⟨rfl, h5⟩) | (go_at_call 26; (with_reducible refine (HWB.out _).mono ?_); rintro e w6 ⟨rfl, h6⟩) | (go_at_call 21; (with_reducible refine (HSA.out _).mono ?_); rintro e w7 ⟨rfl, h7⟩) | (go_at_call 21; (with_reducible refine (HSB.out _).mono ?_); rintro e w8 ⟨rfl, h8⟩) | (go_at_call 40; (with_reducible refine (HAW.out _).mono ?_); rintro e w9 ⟨rfl, h9⟩))
        rename_i v5 g5 hsab
        go_ret
        refine ⟨?_, grown_trans hGG (grown_trans g5 (grown_trans h5 (grown_trans h6 (grown_trans h7 (grown_trans h8 h9)))))⟩
        have : (a == b || (sa : Int) != (sb : Int)) = true := by simp; right; omega
        simp only [this]
        rfl
      · have hdd : da.toList ≠ db.toList := by rw [hda, hdb]; exact hne
        clear hda hqa hdb hqb
        go_wp2_with (first | (go_at_call 26; (with_reducible refine (HWA.out _).mono ?_); rintro e w5 ⟨rfl, h5⟩) | (go_at_call 26; (with_reducible refine (HWB.out _).mono ?_); rintro e w6 ⟨rfl, h6⟩) | (go_at_call 40; (with_reducible refine (HAW.out _).mono ?_); rintro e w9 ⟨rfl, h9⟩))
        rename_i v5 g5
        go_ret
        exact ⟨rfl, grown_trans hGG (grown_trans g5 (grown_trans h5 (grown_trans h6 h9)))⟩
end Go.Proofs.Ytlkajmfpbgipbaa
