/-
  Contracts of math/bits.TrailingZeros64 and natural.wordGcd, where the table of package math/bits holds what its initialiser lays.
-/
import Derived.Test.YtibjmibdboamcaaDoorDiv64
import Derived.Test.YtibjmibdboamcaaDoorGcdA
import Derived.Lib.TrailingZeros
set_option linter.unusedVariables false
set_option linter.unusedSimpArgs false
namespace Go.Proofs.YtibjmibdboamcaaDoor
open Go.RowKit Nm

/-- the table of package math/bits as its initialiser lays it -/
def Tb (w : World) : Prop := ∀ j, j < 64 → w.cell? ⟨1, j, none⟩ = some (.int .u8 (Lib.deBruijn64tab.getD j 0 : Nat))
theorem Tb.keep {w w' : World} (h : Tb w) (hg : w.grownBy w' none) : Tb w' := fun j hj => hg.cell (h j hj) (by simp)

theorem tz_key (x a : Nat) (hx : x < 18446744073709551616) (hx0 : x ≠ 0) (hlow : x &&& (18446744073709551616 - x) = a) :
    IntKind.u64.wrap (bits BinOp.and IntKind.u64 (x : Int) (IntKind.u64.wrap (-(x : Int))) * 285870213051353865) / 288230376151711744 = ((a * 285870213051353865 % 18446744073709551616 / 288230376151711744 : Nat) : Int) := by
  have e1 : IntKind.u64.wrap (-(x : Int)) = ((18446744073709551616 - x : Nat) : Int) := by rw [IntKind.wrap_u64]; omega
  rw [e1, bits_and_u64_nat x _ hx (by omega), hlow, IntKind.wrap_u64]
  omega

theorem tz64_core (x k idx : Nat) (w : World) (hx0 : ((x : Int) == 0) = false)
    (key : IntKind.u64.wrap (bits BinOp.and IntKind.u64 (x : Int) (IntKind.u64.wrap (-(x : Int))) * 285870213051353865) / 288230376151711744 = (idx : Int))
    (hi : idx < 64) (hk : k < 64) (hcell : w.cell? ⟨1, idx, none⟩ = some (.int .u8 k)) :
    Calls Tryd.prog 95 #[.int .u64 x] w fun e w' => e = .returned (.int .i64 k) ∧ w = w' := by
  go_enter Tryd.func95, Tryd.ntmps95
  go_wp2_with (simp only [key])
  go_ret
  exact ⟨rfl, rfl⟩

theorem tz64_any (x : Nat) (h0 : 0 < x) (hx : x < W64) (w : World) (hT : Tb w) :
    Calls Tryd.prog 95 #[.int .u64 x] w fun e w' => ∃ k : Nat, k < 64 ∧ e = .returned (.int .i64 k) ∧ Hid (∃ m, x = 2 ^ k * (2 * m + 1)) ∧ w = w' := by
  have hx' : x < 18446744073709551616 := hx
  obtain ⟨hlow, hk⟩ := Lib.lowest_bit 64 x (by omega) hx'
  obtain ⟨hi, htab⟩ := Lib.deBruijn64_at _ hk
  have hcell := hT _ hi
  rw [htab] at hcell
  have hc := tz64_core x _ _ w (beq_eq_false_iff_ne.2 (by omega)) (tz_key x _ hx' (by omega) hlow) hi hk hcell
  refine hc.mono fun e w' ⟨he, hw⟩ => ⟨_, hk, he, hid ?_, hw⟩
  unfold Lib.ctz
  rw [if_neg (by omega)]
  obtain ⟨m, hm, _⟩ := Lib.ctzFrom_spec 64 x h0 hx'
  exact ⟨m, hm⟩

set_option maxHeartbeats 1000000 in
theorem wordGcd_any (x y : Nat) (hx : x < W64) (hy : y < W64) (w : World) (hT : Tb w) :
    Calls Tryd.prog 78 #[.int .u64 x, .int .u64 y] w fun e w' => e = .returned (.int .u64 (Nat.gcd x y : Nat)) ∧ w = w' := by
  have hor : bits .or .u64 (x : Int) (y : Int) = ((x ||| y : Nat) : Int) := bits_or_u64_nat x y hx hy
  by_cases h0 : x = 0
  · subst h0
    have e0 : (((0 : Nat) : Int) == 0) = true := rfl
    rw [Nat.zero_or] at hor
    have hor' : bits .or .u64 (0 : Int) (y : Int) = (y : Int) := hor
    rw [Nat.gcd_zero_left]
    go_enter Tryd.func78, Tryd.ntmps78
    go_wp2
    go_ret
    exact ⟨rfl, rfl⟩
  · have e0 : (((x : Nat) : Int) == 0) = false := beq_eq_false_iff_ne.2 (by omega)
    by_cases h1 : y = 0
    · subst h1
      have e1 : (((0 : Nat) : Int) == 0) = true := rfl
      rw [Nat.or_zero] at hor
      have hor' : bits .or .u64 (x : Int) (0 : Int) = (x : Int) := hor
      rw [Nat.gcd_zero_right]
      go_enter Tryd.func78, Tryd.ntmps78
      go_wp2
      go_ret
      exact ⟨rfl, rfl⟩
    · have e1 : (((y : Nat) : Int) == 0) = false := beq_eq_false_iff_ne.2 (by omega)
      have hob : x ||| y < W64 := Nat.or_lt_two_pow (n := 64) hx hy
      have ho0 : 0 < x ||| y := Nat.lt_of_lt_of_le (by omega) (Nat.left_le_or (n := x) (m := y))
      obtain ⟨z, hz⟩ : ∃ z, z = x ||| y := ⟨_, rfl⟩
      rw [← hz] at hor hob ho0
      have HZ := hid hz
      have HOR := hid hor
      have HG := hid (rfl : Nat.gcd x y = Nat.gcd x y)
      have H1 := hid (tz64_any z ho0 hob w hT)
      have H2 := hid (tz64_any x (by omega) hx w hT)
      clear hz
      go_enter Tryd.func78, Tryd.ntmps78
      go_wp2_with fail
      refine H1.out.mono ?_
      rintro e w' ⟨t, ht, rfl, HT, rfl⟩
      go_wp2_with fail
      refine H2.out.mono ?_
      rintro e w' ⟨a, ha, rfl, HA, rfl⟩
      obtain ⟨m, hm⟩ := HT.out
      obtain ⟨p', hp⟩ := HA.out
      obtain ⟨c1, c2, c3⟩ := or_zeros (HZ.out.symm.trans hm)
      obtain ⟨P, hP⟩ : ∃ P, P = 2 * p' + 1 := ⟨_, rfl⟩
      rw [← hP] at hp
      have hP2 : P % 2 = 1 := by omega
      have hsplit := hid (gcd_split hp hP2 c1 c2 c3)
      have hxa : x / 2 ^ a = P := by rw [hp]; exact Nat.mul_div_cancel_left _ (Nat.pow_pos (by omega))
      have exa : (x : Int) / 2 ^ a = (P : Int) := by rw [← hxa]; simp
      have hPb : P < W64 := by rw [← hxa]; exact Nat.lt_of_le_of_lt (Nat.div_le_self _ _) hx
      have HP2 := hid hP2
      clear hm hp c1 c2 c3 hP hxa HT HA H1 H2 hor hP2 HOR
      go_wp2_with fail
      clear exa
      go_loop [0, 1] (fun s0 s1 => ∃ u v : Nat, s0 = .int .u64 u ∧ s1 = .int .u64 v ∧ u < W64 ∧ v < W64 ∧ Hid (u % 2 = 1 ∧ Nat.gcd u v = Nat.gcd P y)) (fun s0 s1 => (intOf s0 + intOf s1).toNat)
      case atStart => exact ⟨P, y, rfl, rfl, hPb, hy, hid ⟨HP2.out, rfl⟩⟩
      case round =>
        obtain ⟨u, v, rfl, rfl, hu, hv, HC⟩ := hrel
        by_cases hv0 : v = 0
        · subst hv0
          have ev : (((0 : Nat) : Int) != 0) = false := rfl
          have hg := HC.out.2
          rw [Nat.gcd_zero_right] at hg
          have hgb : u * 2 ^ t = Nat.gcd x y := by rw [hsplit.out, hg, Nat.mul_comm]
          have hlt : Nat.gcd x y < 18446744073709551616 := Nat.lt_of_le_of_lt (Nat.gcd_le_left y (by omega)) hx
          have esh : IntKind.u64.wrap ((u : Int) * 2 ^ t) = ((Nat.gcd x y : Nat) : Int) := by
            rw [show ((u : Int) * 2 ^ t) = ((u * 2 ^ t : Nat) : Int) by simp, hgb]; exact wrap_in _ hlt
          clear hg hgb hlt
          go_wp2_with fail
          go_ret
          exact ⟨rfl, rfl⟩
        · have ev : (((v : Nat) : Int) != 0) = true := by rw [bne_iff_ne]; omega
          go_wp2_with fail
          refine (tz64_any v (by omega) hv w hT).mono ?_
          rintro e w' ⟨k, hk, rfl, HK, rfl⟩
          obtain ⟨q', hq⟩ := HK.out
          obtain ⟨q, hq'⟩ : ∃ q, q = 2 * q' + 1 := ⟨_, rfl⟩
          rw [← hq'] at hq
          have hvk : v / 2 ^ k = q := by rw [hq]; exact Nat.mul_div_cancel_left _ (Nat.pow_pos (by omega))
          have evk : (v : Int) / 2 ^ k = (q : Int) := by rw [← hvk]; simp
          have hqv : q ≤ v := by rw [← hvk]; exact Nat.div_le_self _ _
          have hrd := hid (gcd_round HC.out.1 HC.out.2 hq (by omega))
          have HQ2 := hid (show q % 2 = 1 by omega)
          have hu1 : 1 ≤ u := by have := HC.out.1; omega
          have hq1 : 1 ≤ q := by omega
          clear hq hq' hvk HK ev
          by_cases hlt : q < u
          · have hlt' : (q : Int) < (u : Int) := by omega
            have esub : IntKind.u64.wrap ((u : Int) - (q : Int)) = ((u - q : Nat) : Int) := by rw [IntKind.wrap_u64]; unfold W64 at hu; omega
            obtain ⟨dd, hdd⟩ : ∃ dd, dd = u - q := ⟨_, rfl⟩
            rw [← hdd] at esub
            have hr := hid (hrd.out.2 hlt)
            rw [← hdd] at hr
            have HDD := hid hdd
            clear hdd
            go_wp2_with fail
            exact ⟨⟨q, dd, rfl, rfl, Nat.lt_of_le_of_lt hqv hv, by have := HDD.out; omega, hid ⟨HQ2.out, hr.out⟩⟩, by have := HDD.out; simp [intOf]; omega⟩
          · have hlt' : ¬ (q : Int) < (u : Int) := by omega
            have esub : IntKind.u64.wrap ((q : Int) - (u : Int)) = ((q - u : Nat) : Int) := by rw [IntKind.wrap_u64]; unfold W64 at hv; omega
            obtain ⟨dd, hdd⟩ : ∃ dd, dd = q - u := ⟨_, rfl⟩
            rw [← hdd] at esub
            have hr := hid (hrd.out.1 (by omega))
            rw [← hdd] at hr
            have HDD := hid hdd
            clear hdd
            go_wp2_with fail
            exact ⟨⟨u, dd, rfl, rfl, hu, by have := HDD.out; omega, hid ⟨HC.out.1, hr.out⟩⟩, by have := HDD.out; simp [intOf]; omega⟩
end Go.Proofs.YtibjmibdboamcaaDoor
