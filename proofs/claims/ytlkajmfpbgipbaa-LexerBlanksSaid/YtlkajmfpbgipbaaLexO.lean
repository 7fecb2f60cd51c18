/-
  Contracts of awake and bare.
-/
import Derived.Test.YtlkajmfpbgipbaaLexJ
import Derived.Test.YtlkajmfpbgipbaaLexN
set_option linter.unusedVariables false
set_option linter.unusedSimpArgs false
namespace Go.Proofs.Ytlkajmfpbgipbaa
open Go.RowKit _root_.Nm Lx

theorem awake_any (w : World) : Calls Try.prog 20 #[] w fun e w' => e = .returned (.bool true) ∧ w.grownBy w' none := by
  have H1 := hid (lexAll_any ⟨smp.toArray⟩ smp rfl w)
  unfold AllP at H1
  rw [lex_smp] at H1
  go_enter Try.func20, Try.ntmps20
  go_wp2_with fail
  refine H1.out.mono ?_
  rintro e w1 ⟨p1, n1, c1, rfl, h1, hg1⟩
  have hl := h1.len
  obtain rfl : n1 = 4 := hl.symm
  have hc := h1.cap
  obtain ⟨b, o, rfl, hcell⟩ := h1.at (by decide) (i := 0) (by simp)
  have a3 : w1.cell? ⟨b, o + 3, none⟩ = some (.string ⟨#[112, 111, 105, 110, 116, 115]⟩) := hcell 3 (by decide)
  obtain ⟨b', o', e, hcell'⟩ := h1.at (by decide) (i := 1) (by simp)
  cases e
  have b3 : w1.cell? ⟨b, o + 4 + 3, none⟩ = some (.string ⟨#[65]⟩) := hcell' 3 (by decide)
  have b1 : w1.cell? ⟨b, o + 4 + 1, none⟩ = some (.int .i64 7) := hcell' 1 (by decide)
  obtain ⟨b'', o'', e, hcell''⟩ := h1.at (by decide) (i := 2) (by simp)
  cases e
  have c3 : w1.cell? ⟨b, o + 8 + 3, none⟩ = some (.string ⟨#[59]⟩) := hcell'' 3 (by decide)
  have b3' : w1.cell? ⟨b, o + 7, none⟩ = some (.string ⟨#[65]⟩) := b3
  have b1' : w1.cell? ⟨b, o + 5, none⟩ = some (.int .i64 7) := b1
  have c3' : w1.cell? ⟨b, o + 11, none⟩ = some (.string ⟨#[59]⟩) := c3
  clear hcell hcell' hcell'' h1 hl H1
  go_wp2_with fail
  go_ret
  exact ⟨rfl, hg1⟩

def bareV (last : Bool) (r : Option Bool) : Bool := match r with | some b => last || !b | none => false
set_option maxHeartbeats 4000000 in
set_option maxRecDepth 100000 in
theorem bare_any (s : ByteArray) (l : List UInt8) (hl : s.data.toList = l) (hmax : l.length ≤ 9223372036854775000) (last : Bool) (w : World) :
    Calls Try.prog 19 #[.string s, .bool last] w fun e w' => e = .returned (.bool (bareV last (br false l))) ∧ w = w' := by
  have hsz : s.size = l.length := by rw [Lib.size_eq, hl]
  have HIX := hid (idx_at s l hl)
  obtain ⟨V, hV⟩ : ∃ V, V = bareV last (br false l) := ⟨_, rfl⟩
  rw [← hV]
  have HV := hid hV
  clear hl hV
  go_enter Try.func19, Try.ntmps19
  go_wp2_with fail
  go_loop [5, 9] (fun x y => ∃ (k : Nat) (b : Bool), k ≤ l.length ∧ y = .int .i64 k ∧ x = .bool b ∧ Hid (br b (l.drop k) = br false l)) (fun _ y => l.length - (intOf y).toNat)
  case atStart => exact ⟨0, false, Nat.zero_le _, rfl, rfl, hid rfl⟩
  case round =>
    obtain ⟨k, b, hk, rfl, rfl, HC⟩ := hrel
    by_cases hlt : k < l.length
    · have hix := HIX.out k hlt
      have hd : l.drop k = l[k] :: l.drop (k + 1) := List.drop_eq_getElem_cons hlt
      obtain ⟨c, hc⟩ : ∃ c, c = l[k] := ⟨_, rfl⟩
      rw [← hc] at hix hd
      obtain ⟨m, hm⟩ : ∃ m, m = c.toNat := ⟨_, rfl⟩
      rw [← hm] at hix
      have HD := hid hd
      clear hd hc
      by_cases h10 : m = 10
      · have HS : Hid (br false (l.drop (k + 1)) = br false l) := hid (by have := HC.out; rw [HD.out, br_feed (by omega)] at this; exact this)
        subst h10
        clear hm
        go_wp2_with fail
        exact ⟨⟨k + 1, false, by omega, rfl, rfl, HS⟩, by simp [intOf]; omega⟩
      have e10 : ((m : Int) == 10) = false := by simpa using (by omega : ¬ (m : Int) = 10)
      cases b with
      | true =>
        have HS : Hid (br true (l.drop (k + 1)) = br false l) := hid (by have := HC.out; rw [HD.out, br_same (by omega) (.inl rfl)] at this; exact this)
        clear hm h10
        go_wp2_with fail
        exact ⟨⟨k + 1, true, by omega, rfl, rfl, HS⟩, by simp [intOf]; omega⟩
      | false =>
        by_cases hb : m = 32 ∨ m = 9 ∨ m = 13
        · have HS : Hid (br false (l.drop (k + 1)) = br false l) := hid (by have := HC.out; rw [HD.out, br_same (by omega) (.inr (by omega))] at this; exact this)
          clear hm h10
          rcases hb with rfl | rfl | rfl
          all_goals
            go_wp2_with fail
            exact ⟨⟨k + 1, false, by omega, rfl, rfl, HS⟩, by simp [intOf]; omega⟩
        · have e1 : ((m : Int) == 32) = false := by simpa using (by omega : ¬ (m : Int) = 32)
          have e2 : ((m : Int) == 9) = false := by simpa using (by omega : ¬ (m : Int) = 9)
          have e3 : ((m : Int) == 13) = false := by simpa using (by omega : ¬ (m : Int) = 13)
          by_cases hh : m = 35
          · have HS : Hid (br true (l.drop (k + 1)) = br false l) := hid (by have := HC.out; rw [HD.out, br_hash (by omega)] at this; exact this)
            subst hh
            clear hm h10 hb
            go_wp2_with fail
            exact ⟨⟨k + 1, true, by omega, rfl, rfl, HS⟩, by simp [intOf]; omega⟩
          · have e4 : ((m : Int) == 35) = false := by simpa using (by omega : ¬ (m : Int) = 35)
            have HS : Hid (V = false) := hid (by rw [HV.out, ← HC.out, HD.out, br_none (by omega) (fun h => h.elim (fun h => by cases h) (fun h => by omega)) (by omega)]; rfl)
            clear hm h10 hb hh
            go_wp2_with fail
            go_ret
            exact ⟨ret_b HS.out.symm, rfl⟩
    · obtain rfl : k = l.length := by omega
      have HS : Hid (V = (last || !b)) := hid (by rw [HV.out, ← HC.out, List.drop_of_length_le (Nat.le_refl _)]; rfl)
      cases last with
      | true =>
        go_wp2_with fail
        go_ret
        exact ⟨ret_b HS.out.symm, rfl⟩
      | false =>
        go_wp2_with fail
        go_ret
        exact ⟨ret_b HS.out.symm, rfl⟩
end Go.Proofs.Ytlkajmfpbgipbaa
