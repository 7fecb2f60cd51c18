/-
  Contracts of the reference's skip.
-/
import Derived.Test.YtlkajmfpbgipbaaLexB
set_option linter.unusedVariables false
set_option linter.unusedSimpArgs false
namespace Go.Proofs.Ytlkajmfpbgipbaa
open Go.RowKit _root_.Nm Lx

set_option maxHeartbeats 2000000 in
set_option maxRecDepth 100000 in
theorem rskip_any (s : ByteArray) (l : List UInt8) (hl : s.data.toList = l) (hmax : l.length ≤ 9223372036854775807) (i : Nat) (hi : i ≤ l.length) (w : World) :
    Calls Try.prog 44 #[.string s, .int .i64 (i : Int)] w fun e w' => e = .returned (.int .i64 ((i + sk false (l.drop i) : Nat) : Int)) ∧ w = w' := by
  have hsz : s.size = l.length := by rw [Lib.size_eq, hl]
  have HIX := hid (idx_at s l hl)
  obtain ⟨T, hT⟩ : ∃ T, i + sk false (l.drop i) = T := ⟨_, rfl⟩
  rw [hT]
  have HT := hid hT
  clear hl hT
  go_enter Try.func44, Try.ntmps44
  go_wp2_with fail
  go_loop [1] (fun x => ∃ k : Nat, k ≤ l.length ∧ x = .int .i64 k ∧ Hid (k + sk false (l.drop k) = T)) (fun x => l.length - (intOf x).toNat)
  case atStart => exact ⟨i, hi, rfl, HT⟩
  case round =>
    obtain ⟨k, hk, rfl, HC⟩ := hrel
    by_cases hlt : k < l.length
    · have hix := HIX.out k hlt
      have hd : l.drop k = l[k] :: l.drop (k + 1) := List.drop_eq_getElem_cons hlt
      obtain ⟨ch, hc⟩ : ∃ ch, ch = l[k] := ⟨_, rfl⟩
      have HCH := hid hc
      rw [← hc] at hix hd
      clear hc
      obtain ⟨m, hm⟩ : ∃ m, m = ch.toNat := ⟨_, rfl⟩
      rw [← hm] at hix
      have HB := hid (fun w => hm ▸ blank_any ch.toNat (u8_lt ch) w)
      have HM := hid hm
      by_cases hb : kd m = 1
      · have HB1 := hid fun w => decide_eq_true hb ▸ HB.out w
        have HS : Hid (k + 1 + sk false (l.drop (k + 1)) = T) := hid (by have := HC.out; rw [hd, sk_blank (by rw [← hm]; exact hb)] at this; omega)
        have hne : ¬ (m : Int) = 35 := by have := (kd_blank m).1 hb; omega
        have hne2 : ((m : Int) == 35) = false := by simpa using hne
        clear hd hb hm HB hne
        go_wp2_with (go_at_call 68; refine (HB1.out _).mono ?_; rintro e w' ⟨rfl, rfl⟩)
        exact ⟨⟨k + 1, by omega, rfl, HS⟩, by simp [intOf]; omega⟩
      · have HB1 := hid fun w => decide_eq_false hb ▸ HB.out w
        by_cases hh : kd m = 2
        · obtain rfl : m = 35 := (kd_hash m).1 hh
          have HS : Hid (k + sk true (l.drop k) = T) := hid (by have := HC.out; rw [hd, sk_hash' (by rw [← hm]; exact hh), ← hd] at this; exact this)
          clear hd hb hm HB hh
          go_wp2_with (go_at_call 68; refine (HB1.out _).mono ?_; rintro e w' ⟨rfl, rfl⟩)
          go_loop [1] (fun x => ∃ q : Nat, k ≤ q ∧ q ≤ l.length ∧ x = .int .i64 q ∧ Hid (q + sk true (l.drop q) = T)) (fun x => l.length - (intOf x).toNat)
          case atStart => exact ⟨k, Nat.le_refl _, hk, rfl, HS⟩
          case round =>
            obtain ⟨q, hkq, hq, rfl, HC2⟩ := hrel
            by_cases hlt2 : q < l.length
            · have hix2 := HIX.out q hlt2
              have hd : l.drop q = l[q] :: l.drop (q + 1) := List.drop_eq_getElem_cons hlt2
              have hkq' : q = k → (l[q]).toNat = 35 := fun e => by subst e; rw [← HCH.out]; exact HM.out.symm
              obtain ⟨c2, hc2⟩ : ∃ c, c = l[q] := ⟨_, rfl⟩
              rw [← hc2] at hix2 hd hkq'
              clear hc2
              obtain ⟨m2, hm2⟩ : ∃ m, m = c2.toNat := ⟨_, rfl⟩
              rw [← hm2] at hix2 hkq'
              by_cases h10 : m2 = 10
              · subst h10
                have hlt3 : k < q := by omega
                have HS2 : Hid (q + sk false (l.drop q) = T) := hid (by have := HC2.out; rw [hd, sk_feed hm2.symm, ← hd] at this; exact this)
                clear hd hm2 hkq'
                go_wp2_with fail
                exact ⟨⟨q, hq, rfl, HS2⟩, by simp [intOf]; omega⟩
              · have HS2 : Hid (q + 1 + sk true (l.drop (q + 1)) = T) := hid (by have := HC2.out; rw [hd, sk_in (by rw [← hm2]; exact h10)] at this; omega)
                have hne : ((m2 : Int) != 10) = true := by
                  have : ((m2 : Int) == 10) = false := by simpa using (by omega : ¬ (m2 : Int) = 10)
                  simp [bne, this]
                clear hd hm2 hkq' h10
                go_wp2_with fail
                exact ⟨⟨q + 1, by omega, by omega, rfl, HS2⟩, by simp [intOf]; omega⟩
            · obtain rfl : q = l.length := by omega
              have HS2 : Hid (l.length + sk false (l.drop l.length) = T) := hid (by have := HC2.out; rw [List.drop_of_length_le (Nat.le_refl _), sk_nil] at this ⊢; exact this)
              go_wp2_with fail
              exact ⟨⟨l.length, Nat.le_refl _, rfl, HS2⟩, by simp [intOf]; omega⟩
        · have HS : Hid (k = T) := hid (by have := HC.out; rw [hd, sk_none (by rw [← hm]; exact hb) (by rw [← hm]; exact hh)] at this; omega)
          have hne : ((m : Int) == 35) = false := by
            have : m ≠ 35 := fun e => hh ((kd_hash m).2 e)
            simpa using (by omega : ¬ (m : Int) = 35)
          clear hd hb hm HB hh
          go_wp2_with (go_at_call 68; refine (HB1.out _).mono ?_; rintro e w' ⟨rfl, rfl⟩)
          go_ret
          exact ⟨ret_i HS.out, rfl⟩
    · obtain rfl : k = l.length := by omega
      have HS : Hid (l.length = T) := hid (by have := HC.out; rw [List.drop_of_length_le (Nat.le_refl _), sk_nil] at this; omega)
      go_wp2_with fail
      go_ret
      exact ⟨ret_i HS.out, rfl⟩
end Go.Proofs.Ytlkajmfpbgipbaa
