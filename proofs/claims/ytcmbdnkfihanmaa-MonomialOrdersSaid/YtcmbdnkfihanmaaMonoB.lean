/-
  Contracts of the small functions on monomials and of their specification: trim, Exp, Degree, Main, cmp.Compare, sign.
-/
import Derived.Test.YtcmbdnkfihanmaaProg
import Derived.Test.YtcmbdnkfihanmaaZMem
import Derived.Test.YtcmbdnkfihanmaaMonoA
import Derived.Outline
set_option linter.unusedVariables false
set_option linter.unusedSimpArgs false
namespace Go.Proofs.Ytcmbdnkfihanmaa
open Go.RowKit Nm

theorem trimM_any (a : Option Addr) (n c : Nat) (xs : List Int) (w : World) (h : ZRd w .i64 a n c xs) :
    Calls Try.prog 54 #[.slice a n c] w fun e w' => e = .returned (.slice a (trimZ xs).length c) ∧ w = w' := by
  have hl := h.len
  have hcap := h.cap
  have hmax := h.max
  have HL := hid hl
  clear hl
  go_enter Try.func54, Try.ntmps54
  go_wp2
  go_loop [0] (fun t => ∃ k : Nat, k ≤ n ∧ trimZ xs = trimZ (xs.take k) ∧ t = .slice a k c) (fun t => match t with | .slice _ k _ => k | _ => 0)
  case atStart => exact ⟨n, Nat.le_refl _, by rw [List.take_of_length_le (by rw [HL.out]; exact Nat.le_refl _)], rfl⟩
  case round =>
    obtain ⟨k, hk, hz, rfl⟩ := hrel
    have HZ := hid hz
    clear hz
    by_cases h0 : 0 < k
    · obtain ⟨i, rfl⟩ : ∃ i, k = i + 1 := ⟨k - 1, by omega⟩
      have hi : i < xs.length := by rw [HL.out]; omega
      obtain ⟨b, o, rfl, hci⟩ := h.cel i hi
      have ht := List.take_succ_eq_append_getElem hi
      obtain ⟨x, hx⟩ : ∃ x, x = xs[i] := ⟨_, rfl⟩
      rw [← hx] at hci ht
      have HT := hid ht
      clear ht hx h hi
      by_cases hf : x = 0
      · have HF := hid hf
        rw [hf] at hci
        clear hf
        go_wp2
        exact ⟨⟨i, by omega, by rw [HZ.out, HT.out, HF.out, trimZ_snoc_zero], rfl⟩, by simp⟩
      · go_wp2
        go_ret
        exact ⟨by rw [HZ.out, HT.out, trimZ_snoc hf]; simp; have := HL.out; omega, rfl⟩
    · obtain rfl : k = 0 := by omega
      go_wp2
      go_ret
      exact ⟨by rw [HZ.out]; simp [trimZ], rfl⟩

theorem exp_nat (a : Option Addr) (n c : Nat) (xs : List Int) (w : World) (h : ZRd w .i64 a n c xs) (i : Nat) :
    Calls Try.prog 28 #[.slice a n c, .int .i64 i] w fun e w' => e = .returned (.int .i64 (ex xs i)) ∧ w = w' := by
  have HL := hid h.len
  by_cases hlt : i < n
  · have hi : i < xs.length := by rw [HL.out]; exact hlt
    obtain ⟨b, o, rfl, hci⟩ := h.cel i hi
    have hx := ex_lt hi
    rw [hx]
    generalize xs[i] = x at *
    clear hx hi
    have h1 : (i : Int) < n := by omega
    have h2 : ¬ ((n : Int) ≤ i) := by omega
    go_enter Try.func28, Try.ntmps28
    go_wp2
    go_ret
    exact ⟨rfl, rfl⟩
  · rw [ex_ge (by rw [HL.out]; omega)]
    have h2 : (n : Int) ≤ i := by omega
    go_enter Try.func28, Try.ntmps28
    go_wp2
    go_ret
    exact ⟨rfl, rfl⟩
theorem exp_neg (a : Option Addr) (n c : Nat) (v : Int) (w : World) (h : v < 0) :
    Calls Try.prog 28 #[.slice a n c, .int .i64 v] w fun e w' => e = .returned (.int .i64 0) ∧ w = w' := by
  go_enter Try.func28, Try.ntmps28
  go_wp2
  go_ret
  exact ⟨rfl, rfl⟩
/-- the exponent of any variable -/
theorem exp_any (a : Option Addr) (n c : Nat) (xs : List Int) (w : World) (h : ZRd w .i64 a n c xs) (v : Int) :
    Calls Try.prog 28 #[.slice a n c, .int .i64 v] w fun e w' => e = .returned (.int .i64 (if v < 0 then 0 else ex xs v.toNat)) ∧ w = w' := by
  by_cases hv : v < 0
  · rw [if_pos hv]; exact exp_neg a n c v w hv
  · rw [if_neg hv]
    obtain ⟨i, rfl⟩ : ∃ i : Nat, v = i := ⟨v.toNat, by omega⟩
    exact exp_nat a n c xs w h i

theorem rexp_nat (a : Option Addr) (n c : Nat) (xs : List Int) (w : World) (h : ZRd w .i64 a n c xs) (i : Nat) :
    Calls Try.prog 29 #[.slice a n c, .int .i64 i] w fun e w' => e = .returned (.int .i64 (ex xs i)) ∧ w = w' := by
  have HL := hid h.len
  by_cases hlt : i < n
  · have hi : i < xs.length := by rw [HL.out]; exact hlt
    obtain ⟨b, o, rfl, hci⟩ := h.cel i hi
    have hx := ex_lt hi
    rw [hx]
    generalize xs[i] = x at *
    clear hx hi
    have h1 : (i : Int) < n := by omega
    have h2 : ¬ ((n : Int) ≤ i) := by omega
    go_enter Try.func29, Try.ntmps29
    go_wp2
    go_ret
    exact ⟨rfl, rfl⟩
  · rw [ex_ge (by rw [HL.out]; omega)]
    have h2 : (n : Int) ≤ i := by omega
    go_enter Try.func29, Try.ntmps29
    go_wp2
    go_ret
    exact ⟨rfl, rfl⟩
theorem rexp_neg (a : Option Addr) (n c : Nat) (v : Int) (w : World) (h : v < 0) :
    Calls Try.prog 29 #[.slice a n c, .int .i64 v] w fun e w' => e = .returned (.int .i64 0) ∧ w = w' := by
  go_enter Try.func29, Try.ntmps29
  go_wp2
  go_ret
  exact ⟨rfl, rfl⟩
/-- the exponent of any variable -/
theorem rexp_any (a : Option Addr) (n c : Nat) (xs : List Int) (w : World) (h : ZRd w .i64 a n c xs) (v : Int) :
    Calls Try.prog 29 #[.slice a n c, .int .i64 v] w fun e w' => e = .returned (.int .i64 (if v < 0 then 0 else ex xs v.toNat)) ∧ w = w' := by
  by_cases hv : v < 0
  · rw [if_pos hv]; exact rexp_neg a n c v w hv
  · rw [if_neg hv]
    obtain ⟨i, rfl⟩ : ∃ i : Nat, v = i := ⟨v.toNat, by omega⟩
    exact rexp_nat a n c xs w h i

theorem degree_any (a : Option Addr) (n c : Nat) (xs : List Int) (w : World) (h : ZRd w .i64 a n c xs) {B : Int} (hr : RightZ B xs) (hB : 0 ≤ B ∧ B ≤ 4294967296) :
    Calls Try.prog 26 #[.slice a n c] w fun e w' => e = .returned (.int .i64 (degZ xs)) ∧ w = w' := by
  have HL := hid h.len
  have hn : n ≤ 64 := by rw [← HL.out]; exact hr.len
  have HS := hid (fun k => sumN_nonneg (fun i => (hr.ex hB.1 i).1) k)
  have HM := hid (fun k => sumN_le (fun i => (hr.ex hB.1 i).2) k)
  have HX := hid (fun k => hr.ex hB.1 k)
  have HD : Hid (degZ xs = sumN (ex xs) n) := hid (by unfold degZ; rw [HL.out])
  rw [HD.out]
  clear hr
  go_enter Try.func26, Try.ntmps26
  go_wp2
  go_loop [3, 8] (fun s i => ∃ k : Nat, k ≤ n ∧ i = .int .i64 k ∧ s = .int .i64 (sumN (ex xs) k)) (fun _ i => n - (intOf i).toNat)
  case atStart => exact ⟨0, Nat.zero_le _, rfl, rfl⟩
  case round =>
    obtain ⟨k, hk, rfl, rfl⟩ := hrel
    by_cases hlt : k < n
    · have hi : k < xs.length := by rw [HL.out]; exact hlt
      obtain ⟨b, o, rfl, hci⟩ := h.cel k hi
      have hx := ex_lt hi
      rw [← hx] at hci
      have s0 := HS.out k
      have s1 := HM.out k
      have s2 := HX.out k
      have hs : sumN (ex xs) (k + 1) = sumN (ex xs) k + ex xs k := rfl
      have s3 : (k : Int) * B ≤ 64 * B := Int.mul_le_mul_of_nonneg_right (by omega) hB.1
      have s4 : sumN (ex xs) k ≤ 274877906944 := by omega
      have HN := hid hs
      clear hs hx hi h s1 s3
      generalize sumN (ex xs) k = s at *
      generalize ex xs k = x at *
      have s5 : x ≤ 4294967296 := by omega
      obtain ⟨s2, _⟩ := s2
      have hki : (k : Int) < (n : Int) := by omega
      go_wp2
      exact ⟨⟨k + 1, by omega, rfl, by rw [HN.out]⟩, by simp [intOf]; omega⟩
    · obtain rfl : k = n := by omega
      go_wp2
      go_ret
      exact ⟨rfl, rfl⟩

theorem rdegree_any (a : Option Addr) (n c : Nat) (xs : List Int) (w : World) (h : ZRd w .i64 a n c xs) {B : Int} (hr : RightZ B xs) (hB : 0 ≤ B ∧ B ≤ 4294967296) :
    Calls Try.prog 27 #[.slice a n c] w fun e w' => e = .returned (.int .i64 (degZ xs)) ∧ w = w' := by
  have HL := hid h.len
  have hn : n ≤ 64 := by rw [← HL.out]; exact hr.len
  have HS := hid (fun k => sumN_nonneg (fun i => (hr.ex hB.1 i).1) k)
  have HM := hid (fun k => sumN_le (fun i => (hr.ex hB.1 i).2) k)
  have HX := hid (fun k => hr.ex hB.1 k)
  have HD : Hid (degZ xs = sumN (ex xs) n) := hid (by unfold degZ; rw [HL.out])
  rw [HD.out]
  clear hr
  go_enter Try.func27, Try.ntmps27
  go_wp2
  go_loop [3, 4] (fun s i => ∃ k : Nat, k ≤ n ∧ i = .int .i64 k ∧ s = .int .i64 (sumN (ex xs) k)) (fun _ i => n - (intOf i).toNat)
  case atStart => exact ⟨0, Nat.zero_le _, rfl, rfl⟩
  case round =>
    obtain ⟨k, hk, rfl, rfl⟩ := hrel
    by_cases hlt : k < n
    · have hi : k < xs.length := by rw [HL.out]; exact hlt
      obtain ⟨b, o, rfl, hci⟩ := h.cel k hi
      have hx := ex_lt hi
      rw [← hx] at hci
      have s0 := HS.out k
      have s1 := HM.out k
      have s2 := HX.out k
      have hs : sumN (ex xs) (k + 1) = sumN (ex xs) k + ex xs k := rfl
      have s3 : (k : Int) * B ≤ 64 * B := Int.mul_le_mul_of_nonneg_right (by omega) hB.1
      have s4 : sumN (ex xs) k ≤ 274877906944 := by omega
      have HN := hid hs
      clear hs hx hi h s1 s3
      generalize sumN (ex xs) k = s at *
      generalize ex xs k = x at *
      have s5 : x ≤ 4294967296 := by omega
      obtain ⟨s2, _⟩ := s2
      have hki : (k : Int) < (n : Int) := by omega
      go_wp2
      exact ⟨⟨k + 1, by omega, rfl, by rw [HN.out]⟩, by simp [intOf]; omega⟩
    · obtain rfl : k = n := by omega
      go_wp2
      go_ret
      exact ⟨rfl, rfl⟩

theorem main_any (a : Option Addr) (n c : Nat) (xs : List Int) (w : World) (h : ZRd w .i64 a n c xs) (hl : xs.getLast? ≠ some 0) :
    Calls Try.prog 30 #[.slice a n c] w fun e w' => e = .returned (.int .i64 ((n : Int) - 1)) ∧ w = w' := by
  have HT : Hid ((trimZ xs).length = n) := hid (by rw [trimZ_id hl, h.len])
  have hcap := h.cap
  have hmax := h.max
  have R := hid (trimM_any a n c xs w h)
  rw [HT.out] at R
  go_enter Try.func30, Try.ntmps30
  go_wp2_with (go_at_call 54; (with_reducible refine (R.out).mono ?_); rintro e w' ⟨rfl, rfl⟩)
  go_ret
  exact ⟨rfl, rfl⟩
theorem rmain_any (a : Option Addr) (n c : Nat) (w : World) (hn : n ≤ 9223372036854775807) :
    Calls Try.prog 31 #[.slice a n c] w fun e w' => e = .returned (.int .i64 ((n : Int) - 1)) ∧ w = w' := by
  go_enter Try.func31, Try.ntmps31
  go_wp2
  go_ret
  exact ⟨rfl, rfl⟩

theorem cmpZ_any (x y : Int) (w : World) :
    Calls Try.prog 63 #[.int .i64 x, .int .i64 y] w fun e w' => e = .returned (.int .i64 (cmpZ x y)) ∧ w = w' := by
  by_cases h : x < y
  · have e : cmpZ x y = -1 := if_pos h
    rw [e]
    go_enter Try.func63, Try.ntmps63
    go_wp2
    go_ret
    exact ⟨rfl, rfl⟩
  · by_cases h2 : y < x
    · have e : cmpZ x y = 1 := by unfold cmpZ; rw [if_neg h, if_pos h2]
      rw [e]
      go_enter Try.func63, Try.ntmps63
      go_wp2
      go_ret
      exact ⟨rfl, rfl⟩
    · have e : cmpZ x y = 0 := by unfold cmpZ; rw [if_neg h, if_neg h2]
      rw [e]
      go_enter Try.func63, Try.ntmps63
      go_wp2
      go_ret
      exact ⟨rfl, rfl⟩
theorem sign_any (x y d : Int) (w : World) (hd : d = x - y) :
    Calls Try.prog 64 #[.int .i64 d] w fun e w' => e = .returned (.int .i64 (cmpZ x y)) ∧ w = w' := by
  by_cases h : d < 0
  · have e : cmpZ x y = -1 := if_pos (by omega)
    rw [e]
    clear e hd
    go_enter Try.func64, Try.ntmps64
    go_wp2
    go_ret
    exact ⟨rfl, rfl⟩
  · by_cases h2 : 0 < d
    · have e : cmpZ x y = 1 := by unfold cmpZ; rw [if_neg (by omega), if_pos (by omega)]
      rw [e]
      clear e hd
      go_enter Try.func64, Try.ntmps64
      go_wp2
      go_ret
      exact ⟨rfl, rfl⟩
    · have e : cmpZ x y = 0 := by unfold cmpZ; rw [if_neg (by omega), if_neg (by omega)]
      rw [e]
      clear e hd
      go_enter Try.func64, Try.ntmps64
      go_wp2
      go_ret
      exact ⟨rfl, rfl⟩
end Go.Proofs.Ytcmbdnkfihanmaa
