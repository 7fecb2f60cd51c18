/-
  Contract of the closure of natural.divide that returns a digit of a quotient, or one more.
-/
import Derived.Test.YtdmlcddieadelaaGreatDoorShW
set_option linter.unusedVariables false
set_option linter.unusedSimpArgs false
namespace Go.Proofs.YtdmlcddieadelaaGreatDoor
open Go.RowKit Nm

theorem drewN_add (w : World) (a b : Nat) : (w.drewN a).drewN b = w.drewN (a + b) := by unfold World.drewN; simp [Nat.add_assoc]

set_option maxHeartbeats 1000000 in
theorem digit_any (high mid low first second : Nat) (hb : high < W64) (mb : mid < W64) (lb : low < W64) (fb : first < W64) (sb : second < W64) (fa sa : Addr) (w : World)
    (hf : w.cell? fa = some (.int .u64 first)) (hs : w.cell? sa = some (.int .u64 second)) :
    Calls Tryz.prog 170 #[.int .u64 high, .int .u64 mid, .int .u64 low, .pointer (some fa), .pointer (some sa)] w fun e w' => ∃ d : Nat, e = .returned (.int .u64 d) ∧
      Hid (d = if first ≤ high then W64 - 1 else (high * W64 * W64 + mid * W64 + low) / (first * W64 + second)) ∧ ∃ n, w' = w.drewN n := by
  by_cases hh : first ≤ high
  · have hh' : (first : Int) ≤ (high : Int) := by omega
    have HH := hid hh
    rw [if_pos hh]
    clear hh
    go_enter Tryz.func170, Tryz.ntmps170
    go_wp2
    go_ret
    exact ⟨18446744073709551615, rfl, hid rfl, 0, rfl⟩
  · have hlt : high < first := by omega
    have hh' : ¬ (first : Int) ≤ (high : Int) := by omega
    have hD := hid (div64_any high mid first hlt fb mb w)
    have hq : (high * W64 + mid) / first < W64 := Nat.div_lt_of_lt_mul (by
      have := Nat.mul_le_mul_right W64 (show high + 1 ≤ first from hlt)
      rw [Nat.add_mul, Nat.one_mul] at this; omega)
    have hr : (high * W64 + mid) % first < first := Nat.mod_lt _ (by omega)
    have HDQ := hid (Dq.start (B := W64) (y1 := first) (y0 := second) (n := high * W64 + mid) (u := low) (by omega) lb)
    have HN : Hid (high * W64 + mid < first * W64 + second) := hid (by
      have := Nat.mul_le_mul_right W64 (show high + 1 ≤ first from hlt)
      rw [Nat.add_mul, Nat.one_mul] at this; omega)
    have HE : Hid ((high * W64 + mid) * W64 + low = high * W64 * W64 + mid * W64 + low) := hid (by rw [Nat.add_mul])
    rw [if_neg hh]
    rw [← HE.out]
    obtain ⟨N, hN⟩ : ∃ N, N = high * W64 + mid := ⟨_, rfl⟩
    rw [← hN] at hD hq hr HDQ HN ⊢
    obtain ⟨q, hq'⟩ : ∃ q, q = N / first := ⟨_, rfl⟩
    obtain ⟨r, hr'⟩ : ∃ r, r = N % first := ⟨_, rfl⟩
    rw [← hq', ← hr'] at HDQ hD
    rw [← hq'] at hq
    rw [← hr'] at hr
    have hrW : r < W64 := Nat.lt_trans hr fb
    clear hN hq' hr' HE hh hr
    go_enter Tryz.func170, Tryz.ntmps170
    go_wp2_with (go_at_call 156; (with_reducible refine (hD.out).mono ?_); rintro e w' ⟨rfl, nd, rfl⟩)
    go_loopw [9, 10] (fun s9 s10 wr => ∃ q r n : Nat, s9 = .int .u64 q ∧ s10 = .int .u64 r ∧ q < W64 ∧ r < W64 ∧ wr = w.drewN n ∧ Hid (Dq W64 first second N low q r)) (fun s9 _ _ => (intOf s9).toNat)
    case atStart => exact ⟨q, r, nd, rfl, rfl, hq, hrW, rfl, HDQ⟩
    case round =>
      clear hq hrW HDQ
      obtain ⟨q, r, n, rfl, rfl, hq, hrW, rfl, HDQ⟩ := hrel
      have step : W64 * r + low < q * second → ∃ p r2 : Nat, IntKind.u64.wrap ((q : Int) - 1) = (p : Int) ∧ IntKind.u64.wrap ((r : Int) + (first : Int)) = (r2 : Int) ∧ p < q ∧ r2 < W64 ∧
          ((r2 < first ∧ Hid (p = (N * W64 + low) / (first * W64 + second))) ∨ (first ≤ r2 ∧ Hid (Dq W64 first second N low p r2))) := fun hc => by
        obtain ⟨h1, h2⟩ := HDQ.out.step HN.out lb (.inr hc)
        refine ⟨q - 1, (r + first) % 18446744073709551616, ?_, ?_, by omega, Nat.mod_lt _ (by decide), ?_⟩
        · rw [IntKind.wrap_u64]; unfold W64 at hq; omega
        · rw [IntKind.wrap_u64]; omega
        · unfold W64 at hrW fb
          by_cases ho : r + first < 18446744073709551616
          · right
            rw [Nat.mod_eq_of_lt ho]
            exact ⟨by omega, hid h2⟩
          · left
            refine ⟨by omega, hid (h2.done2 HN.out sb (by unfold W64; omega)).2⟩
      have STEP := hid step
      clear step
      have FIN := hid (fun h => HDQ.out.done h)
      go_wp2_with fail
      refine (mul64_any q second hq sb _).mono ?_
      rintro e w' ⟨hi, lo, rfl, hhi, hlo, HM, rfl⟩
      have back : ∀ c : Prop, (¬ c → W64 * r + low < q * second) → (c → q * second ≤ W64 * r + low) → (c ∧ Hid (q = (N * W64 + low) / (first * W64 + second))) ∨ (¬ c ∧ ∃ p r2 : Nat, IntKind.u64.wrap ((q : Int) - 1) = (p : Int) ∧ IntKind.u64.wrap ((r : Int) + (first : Int)) = (r2 : Int) ∧ p < q ∧ r2 < W64 ∧
          ((r2 < first ∧ Hid (p = (N * W64 + low) / (first * W64 + second))) ∨ (first ≤ r2 ∧ Hid (Dq W64 first second N low p r2)))) := fun c h1 h2 => by
        by_cases hc : c
        · exact .inl ⟨hc, hid (FIN.out (h2 hc))⟩
        · exact .inr ⟨hc, STEP.out (h1 hc)⟩
      rcases Nat.lt_trichotomy hi r with h1 | h1 | h1
      · have h1' : (hi : Int) < (r : Int) := by omega
        have hle : q * second ≤ W64 * r + low := by
          have := Nat.mul_le_mul_left W64 (show hi + 1 ≤ r from h1)
          rw [HM.out]; rw [Nat.mul_add] at this; omega
        have hfin := hid (FIN.out hle)
        clear back STEP FIN
        go_wp2
        go_ret
        exact ⟨q, rfl, hfin, n, rfl⟩
      · subst h1
        have h1' : ¬ (hi : Int) < (hi : Int) := by omega
        have h1e : (((hi : Int) == (hi : Int)) = true) := by simp
        by_cases h2 : lo ≤ low
        · have h2' : (lo : Int) ≤ (low : Int) := by omega
          have hfin := hid (FIN.out (by rw [HM.out]; omega))
          clear back STEP FIN
          go_wp2
          go_ret
          exact ⟨q, rfl, hfin, n, rfl⟩
        · have h2' : ¬ (lo : Int) ≤ (low : Int) := by omega
          obtain ⟨p, r2, e1, e2, hpq, hr2, h3⟩ := STEP.out (by rw [HM.out]; omega)
          clear back STEP FIN
          rcases h3 with ⟨h3, h4⟩ | ⟨h3, h4⟩
          · have h3' : (r2 : Int) < (first : Int) := by omega
            go_wp2
            go_ret
            exact ⟨p, rfl, h4, n, rfl⟩
          · have h3' : ¬ (r2 : Int) < (first : Int) := by omega
            go_wp2
            exact ⟨⟨p, r2, n, rfl, rfl, Nat.lt_trans hpq hq, hr2, rfl, h4⟩, by simp [intOf]; omega⟩
      · have h1' : ¬ (hi : Int) < (r : Int) := by omega
        have h1e : (((hi : Int) == (r : Int)) = false) := beq_eq_false_iff_ne.2 (by omega)
        obtain ⟨p, r2, e1, e2, hpq, hr2, h3⟩ := STEP.out (by
          have := Nat.mul_le_mul_left W64 (show r + 1 ≤ hi from h1)
          rw [HM.out]; rw [Nat.mul_add] at this; omega)
        clear back STEP FIN
        rcases h3 with ⟨h3, h4⟩ | ⟨h3, h4⟩
        · have h3' : (r2 : Int) < (first : Int) := by omega
          go_wp2
          go_ret
          exact ⟨p, rfl, h4, n, rfl⟩
        · have h3' : ¬ (r2 : Int) < (first : Int) := by omega
          go_wp2
          exact ⟨⟨p, r2, n, rfl, rfl, Nat.lt_trans hpq hq, hr2, rfl, h4⟩, by simp [intOf]; omega⟩

/-- the digit for three words of what is left and the two highest words of the divisor -/
def dgt (first second high mid low : Nat) : Nat := if first ≤ high then W64 - 1 else (high * W64 * W64 + mid * W64 + low) / (first * W64 + second)

theorem digit_q (high mid low first second : Nat) (hb : high < W64) (mb : mid < W64) (lb : low < W64) (fb : first < W64) (sb : second < W64) (fa sa : Addr) (w : World)
    (hf : w.cell? fa = some (.int .u64 first)) (hs : w.cell? sa = some (.int .u64 second)) :
    Calls Tryz.prog 170 #[.int .u64 high, .int .u64 mid, .int .u64 low, .pointer (some fa), .pointer (some sa)] w fun e w' => e = .returned (.int .u64 (dgt first second high mid low : Nat)) ∧ ∃ n, w' = w.drewN n :=
  (digit_any high mid low first second hb mb lb fb sb fa sa w hf hs).mono fun e w' ⟨d, he, hd, hw⟩ => ⟨by rw [he, hd.out]; rfl, hw⟩
end Go.Proofs.YtdmlcddieadelaaGreatDoor
