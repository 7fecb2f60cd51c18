/-
  Contracts of Norm, Bits, Uint of both packages, and of Same.
-/
import Derived.Test.YthkgldpcgmnaiaaDoorRefB
set_option linter.unusedVariables false
set_option linter.unusedSimpArgs false
namespace Go.Proofs.YthkgldpcgmnaiaaDoor
open Go.RowKit Nm

set_option maxHeartbeats 1000000 in
/-- Same of two slices that read alike -/
theorem same_any (a b : Option Addr) (n c d : Nat) (xs : List Nat) (w : World) (h : IRd w .u16 a n c xs) (k : IRd w .u16 b n d xs) :
    Calls Tryd.prog 13 #[.slice a n c, .slice b n d] w fun e w' => e = .returned (.bool true) ∧ w.grownBy w' none := by
  have hmax := h.max
  have hcap := h.cap
  have HL := hid h.len
  go_enter Tryd.func13, Tryd.ntmps13
  go_wp2_with fail
  go_loopw [5] (fun i wr => ∃ k : Nat, k ≤ n ∧ i = .int .i64 k ∧ w.grownBy wr none) (fun i _ => n - (intOf i).toNat)
  case atStart => exact ⟨0, Nat.zero_le _, rfl, grown_refl _ _⟩
  case round =>
    obtain ⟨i, hi, rfl, hgr⟩ := hrel
    by_cases hlt : i < n
    · have hiu : i < xs.length := by rw [HL.out]; exact hlt
      obtain ⟨b1, o1, rfl, hc1⟩ := h.cel i hiu
      obtain ⟨b2, o2, rfl, hc2⟩ := k.cel i hiu
      have hd1 := hgr.cell hc1 (by simp)
      have hd2 := hgr.cell hc2 (by simp)
      obtain ⟨x, hx'⟩ : ∃ x, x = xs[i] := ⟨_, rfl⟩
      rw [← hx'] at hd1 hd2
      clear hc1 hc2 hx'
      have hi0 : (0 : Int) ≤ (i : Int) := by omega
      have hil : (i : Int) < (n : Int) := by omega
      go_wp2
      go_quiet (fail)
      go_wp2
      exact ⟨⟨i + 1, by omega, rfl, gdN hgr _⟩, by simp [intOf]; omega⟩
    · obtain rfl : i = n := by omega
      go_wp2
      go_ret
      exact ⟨rfl, hgr⟩

theorem natNorm_any (a : Option Addr) (n c : Nat) (xs : List Nat) (w : World) (h : IRd w .u16 a n c xs) (hn : n ≤ 1000000) :
    Calls Tryd.prog 46 #[.slice a n c] w fun e w' => ∃ a' c', e = .returned (.slice a' (trimR xs).length c') ∧ IRd w' .u16 a' (trimR xs).length c' (trimR xs) ∧ w.grownBy w' none := by
  have hl : (trimR xs).length ≤ n := by rw [← h.len]; exact trimR_length_le xs
  have ht := h.take (trimR xs).length hl
  rw [← trimR_eq_take] at ht
  go_enter Tryd.func46, Tryd.ntmps46
  go_wp2_with (first
    | (go_at_call 61; refine (trim16 a n c xs _ h).mono ?_; rintro e w' ⟨rfl, rfl⟩)
    | (go_at_call 63; refine (clone_any _ _ _ (trimR xs) _ ht (by omega)).mono ?_; rintro e w1 ⟨rfl, hr, hg⟩))
  go_ret
  have := hr.rd0 (by omega)
  exact ⟨_, _, rfl, this, hg⟩

/-- b is the number of binary digits of N -/
def IsBits (N b : Nat) : Prop := (N = 0 ∧ b = 0) ∨ (1 ≤ b ∧ 2 ^ (b - 1) ≤ N ∧ N < 2 ^ b)
theorem IsBits.unique {N b c : Nat} (h : IsBits N b) (k : IsBits N c) : b = c := by
  have hp : ∀ m, 0 < 2 ^ m := fun m => Nat.pow_pos (by omega)
  rcases h with ⟨h1, h2⟩ | ⟨h1, h2, h3⟩ <;> rcases k with ⟨k1, k2⟩ | ⟨k1, k2, k3⟩
  · omega
  · have := hp (c - 1); omega
  · have := hp (b - 1); omega
  · have e1 : 2 ^ (b - 1) < 2 ^ c := by omega
    have e2 : 2 ^ (c - 1) < 2 ^ b := by omega
    have := (Nat.pow_lt_pow_iff_right (by omega : 1 < 2)).1 e1
    have := (Nat.pow_lt_pow_iff_right (by omega : 1 < 2)).1 e2
    omega

theorem isBits_top (xs : List Nat) (hd : Dg 65536 xs) (top l : Nat) (ht : xs.length = top + 1) (t : Nat) (hg : xs[top]? = some t) (h0 : t ≠ 0) (hl : 1 ≤ l ∧ 2 ^ (l - 1) ≤ t ∧ t < 2 ^ l) :
    IsBits (V 65536 xs) (top * 16 + l) := by
  obtain ⟨htl, rfl⟩ := List.getElem?_eq_some_iff.1 hg
  have e := V_take_drop (B := 65536) xs top (by omega)
  rw [V_drop_succ xs top htl, List.drop_of_length_le (by omega)] at e
  simp only [V_nil, Nat.mul_zero, Nat.add_zero] at e
  have h1 := (hd.take top).lt
  rw [List.length_take, Nat.min_eq_left (by omega)] at h1
  generalize xs[top] = t at *
  have w4 : (65536 : Nat) ^ top = 2 ^ (top * 16) := by rw [show (65536 : Nat) = 2 ^ 16 from rfl, ← Nat.pow_mul, Nat.mul_comm]
  rw [w4] at e h1
  obtain ⟨b1, b2, b3⟩ := hl
  refine .inr ⟨by omega, ?_, ?_⟩
  · rw [show top * 16 + l - 1 = top * 16 + (l - 1) by omega, Nat.pow_add, e]
    exact Nat.le_trans (Nat.mul_le_mul_left _ b2) (Nat.le_add_left _ _)
  · rw [Nat.pow_add]
    have c2 : 2 ^ (top * 16) * (t + 1) ≤ 2 ^ (top * 16) * 2 ^ l := Nat.mul_le_mul_left _ b3
    rw [Nat.mul_add, Nat.mul_one] at c2
    omega

/-- the top limb of a canonical number -/
theorem can_top {xs : List Nat} (h : Nm.Can 65536 xs) (top : Nat) (ht : xs.length = top + 1) (htl : top < xs.length) : xs[top] ≠ 0 := by
  intro hz; apply h.2
  rw [List.getLast?_eq_getElem?, show xs.length - 1 = top by omega, List.getElem?_eq_getElem htl, hz]

set_option maxHeartbeats 1000000 in
theorem natBits_any (a : Option Addr) (n c : Nat) (xs : List Nat) (w : World) (h : IRd w .u16 a n c xs) (hd : Dg 65536 xs) (hn : n ≤ 1000000) :
    Calls Tryd.prog 48 #[.slice a n c] w fun e w' => ∃ b : Nat, b ≤ 16 * n ∧ e = .returned (.int .i64 b) ∧ Hid (IsBits (V 65536 xs) b) ∧ w = w' := by
  have hl : (trimR xs).length ≤ n := by rw [← h.len]; exact trimR_length_le xs
  have ht := h.take (trimR xs).length hl
  rw [← trimR_eq_take] at ht
  have hcap := h.cap
  have hmax := h.max
  have R1 := hid (trim16 a n c xs w h)
  have hcx := Can_trimR hd
  have HV := hid (V_trimR (B := 65536) xs)
  generalize trimR xs = us at *
  clear h
  by_cases h0 : us.length = 0
  · have hus : us = [] := List.eq_nil_of_length_eq_zero h0
    rw [h0] at R1
    have HU := hid hus
    clear h0 hus
    go_enter Tryd.func48, Tryd.ntmps48
    go_wp2_with (go_at_call 61; refine R1.out.mono ?_; rintro e w' ⟨rfl, rfl⟩)
    go_ret
    exact ⟨0, by omega, rfl, hid (.inl ⟨by rw [← HV.out, HU.out]; rfl, rfl⟩), rfl⟩
  · obtain ⟨top, htop⟩ : ∃ top, us.length = top + 1 := ⟨us.length - 1, by omega⟩
    have htl : top < us.length := by omega
    rw [htop] at R1
    obtain ⟨b, o, rfl, hc⟩ := ht.cel top htl
    obtain ⟨t, ht'⟩ : ∃ t, t = us[top] := ⟨_, rfl⟩
    rw [← ht'] at hc
    have htb : t < 65536 := by rw [ht']; exact hcx.1.get _ htl
    have ht0 : t ≠ 0 := by rw [ht']; exact can_top hcx top htop htl
    have HT := hid ht'
    have HTOP := hid htop
    have htn : top + 1 ≤ n := by omega
    have ht0' := hid ht0
    clear ht' htop h0 ht0
    go_enter Tryd.func48, Tryd.ntmps48
    go_wp2_with (first
      | (go_at_call 61; refine R1.out.mono ?_; rintro e w' ⟨rfl, rfl⟩)
      | (go_at_call 70; refine (len16_any t htb _).mono ?_; rintro e w' ⟨l, hl', HL, rfl, rfl⟩))
    go_ret
    refine ⟨top * 16 + l, by omega, rfl, hid ?_, rfl⟩
    rw [← HV.out]
    refine isBits_top us hcx.1 top l HTOP.out t (by rw [HT.out]; exact List.getElem?_eq_getElem htl) ht0'.out ?_
    rcases bitLen_spec t (by show t < 18446744073709551616; omega) with ⟨h1, _⟩ | h1
    · exact absurd h1 ht0'.out
    · rw [HL.out]; exact h1

end Go.Proofs.YthkgldpcgmnaiaaDoor
