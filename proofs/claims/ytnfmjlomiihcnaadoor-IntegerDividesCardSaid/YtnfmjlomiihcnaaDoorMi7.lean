/-
  Contracts of functions of the program, part 7: Div64, ShW, Digit, DivW, DivB.
-/
import Derived.Test.YtnfmjlomiihcnaaDoorMi6
import Derived.Deep.CutBlock
import Derived.Deep.DeepCutAuto
import Derived.RegionTactic
import Derived.ChangeAlike
/-
  Contracts of math/bits.LeadingZeros64 and math/bits.Div64: the leading zeros of a word that is not 0; the quotient and the rest of two words by a greater word.
-/
set_option linter.unusedVariables false
set_option linter.unusedSimpArgs false
namespace Go.Proofs.YtnfmjlomiihcnaaDoor
open Go.RowKit Nm

/-- s is the distance by which x must be shifted so that its highest bit is set -/
def IsLz (x s : Nat) : Prop := s ≤ 63 ∧ 9223372036854775808 ≤ x * 2 ^ s ∧ x * 2 ^ s < 18446744073709551616
theorem isLz_of (x l : Nat) (h : 1 ≤ l ∧ 2 ^ (l - 1) ≤ x ∧ x < 2 ^ l) (hl : l ≤ 64) : IsLz x (64 - l) := by
  obtain ⟨h1, h2, h3⟩ := h
  have p : 0 < 2 ^ (64 - l) := Nat.pow_pos (by omega)
  refine ⟨by omega, ?_, ?_⟩
  · have := Nat.mul_le_mul_right (2 ^ (64 - l)) h2
    rw [← Nat.pow_add, show l - 1 + (64 - l) = 63 by omega] at this
    exact this
  · have := Nat.mul_lt_mul_of_pos_right h3 p
    rw [← Nat.pow_add, show l + (64 - l) = 64 by omega] at this
    exact this

theorem lz_any (x : Nat) (h0 : 0 < x) (hx : x < W64) (w : World) :
    Calls Tryd.prog 84 #[.int .u64 x] w fun e w' => ∃ s : Nat, s ≤ 63 ∧ e = .returned (.int .i64 s) ∧ Hid (IsLz x s) ∧ w = w' := by
  have hb := bitLen_spec x hx
  have hb' : 1 ≤ Lib.bitLen x ∧ 2 ^ (Lib.bitLen x - 1) ≤ x ∧ x < 2 ^ Lib.bitLen x := by
    rcases hb with ⟨h, _⟩ | h
    · omega
    · exact h
  have HB := hid hb'
  clear hb hb'
  go_enter Tryd.func84, Tryd.ntmps84
  go_wp2_with (go_at_call 83; refine (len64_any x hx _).mono ?_; rintro e w' ⟨l, hl, HL, rfl, rfl⟩)
  go_ret
  have hz := HB.out
  rw [← HL.out] at hz
  have h1 := isLz_of x l hz hl
  exact ⟨64 - l, h1.1, ret_eq (congrArg (Value.int IntKind.i64) (by omega)), hid h1, rfl⟩

theorem two_pow_cut (s : Nat) (hs : s ≤ 63) : 2 ^ s * 2 ^ (64 - s) = W64 := by rw [← Nat.pow_add, show s + (64 - s) = 64 by omega]; decide
theorem Dq_qlt {B y1 y0 n u q r : Nat} (h : Dq B y1 y0 n u q r) (hy : 0 < y1) : q ≤ n := by
  have := h.e
  have := Nat.le_mul_of_pos_right q hy
  omega
theorem tuple2_eq {a b c d : Value} (h : a = b) (k : c = d) : Value.tuple #[a, c] = Value.tuple #[b, d] := by rw [h, k]
theorem bits64 : 2 ^ IntKind.u64.bits = 18446744073709551616 := by decide
theorem wrap_shl (n : Nat) : IntKind.u64.wrap (n : Int) = ((n % 2 ^ IntKind.u64.bits : Nat) : Int) := by rw [bits64]; exact wrap_mod n

set_option maxHeartbeats 1000000 in
theorem div64_any (hi lo y : Nat) (hlt : hi < y) (hy : y < W64) (hlo : lo < W64) (w : World) :
    Calls Tryd.prog 82 #[.int .u64 hi, .int .u64 lo, .int .u64 y] w fun e w' => e = .returned (.tuple #[.int .u64 ((hi * W64 + lo) / y : Nat), .int .u64 ((hi * W64 + lo) % y : Nat)]) ∧ ∃ n, w' = w.drewN n := by
  have hy1 : (1 : Int) ≤ (y : Int) := by omega
  have hlt' : ¬ ((y : Int) ≤ (hi : Int)) := by omega
  have hy0 : (((y : Int) == 0) = false) := beq_eq_false_iff_ne.2 (by omega)
  have L1 := hid (lz_any y (by omega) hy w)
  by_cases h0 : hi = 0
  · subst h0
    have e1 : IntKind.u64.wrap ((lo : Int) / (y : Int)) = ((lo / y : Nat) : Int) := by rw [← Int.natCast_ediv]; exact wrap_in _ (Nat.lt_of_le_of_lt (Nat.div_le_self _ _) hlo)
    have e2 : (lo : Int).tmod (y : Int) = ((lo % y : Nat) : Int) := rfl
    have hz : (((0 : Nat) : Int) == 0) = true := rfl
    rw [Nat.zero_mul, Nat.zero_add]
    go_enter Tryd.func82, Tryd.ntmps82
    go_wp2
    go_quiet (fail)
    go_wp2
    go_ret2
    exact ⟨rfl, _, rfl⟩
  · have hi0 : (((hi : Int) == 0) = false) := beq_eq_false_iff_ne.2 (by omega)
    go_enter Tryd.func82, Tryd.ntmps82
    go_upto_region 8 with (first
      | (go_at_call 84; (with_reducible refine (L1.out).mono ?_); rintro e w' ⟨s, hs, rfl, HL, rfl⟩))
    have hz := HL.out
    obtain ⟨hs1, hs2, hs3⟩ := hz
    obtain ⟨Y, hY⟩ : ∃ Y, Y = y * 2 ^ s := ⟨_, rfl⟩
    obtain ⟨H, hH⟩ : ∃ H, H = hi * 2 ^ s := ⟨_, rfl⟩
    obtain ⟨L, hL⟩ : ∃ L, L = lo / 2 ^ (64 - s) := ⟨_, rfl⟩
    obtain ⟨X, hX⟩ : ∃ X, X = lo * 2 ^ s % W64 := ⟨_, rfl⟩
    have hXb : X < W64 := by rw [hX]; exact Nat.mod_lt _ (by decide)
    have hHb : H < Y := by rw [hH, hY]; exact Nat.mul_lt_mul_of_pos_right hlt (Nat.pow_pos (by omega))
    have hYb : Y < W64 := by rw [hY]; exact hs3
    have hYl : 9223372036854775808 ≤ Y := by rw [hY]; exact hs2
    have hNY : H + L < Y := by rw [hH, hL, hY]; exact shift_lt (two_pow_cut s hs) (Nat.pow_pos (by omega)) hlo hlt
    have hLs : L < 2 ^ s := by
      rw [hL]; exact Nat.div_lt_of_lt_mul (by rw [Nat.mul_comm, two_pow_cut s hs]; exact hlo)
    have eY : IntKind.u64.wrap ((y : Int) * 2 ^ s) = (Y : Int) := by
      rw [hY, show ((y : Int) * 2 ^ s) = ((y * 2 ^ s : Nat) : Int) by simp, wrap_in _ hs3]
    have eH : IntKind.u64.wrap ((hi : Int) * 2 ^ s) = (H : Int) := by
      rw [show ((hi : Int) * 2 ^ s) = ((hi * 2 ^ s : Nat) : Int) by simp, ← hH, wrap_in _ (Nat.lt_trans hHb hYb)]
    have eL : (lo : Int) / 2 ^ (64 - s) = (L : Int) := by rw [hL]; simp
    have eX : IntKind.u64.wrap ((lo : Int) * 2 ^ s) = (X : Int) := by
      rw [show ((lo : Int) * 2 ^ s) = ((lo * 2 ^ s : Nat) : Int) by simp, wrap_mod, hX]; rfl
    have eO : bits .or .u64 (H : Int) (L : Int) = ((H + L : Nat) : Int) := by
      rw [bits_or_u64_nat _ _ (Nat.lt_trans hHb hYb) (by have := Nat.lt_trans hNY hYb; unfold W64 at this; omega), nat_join s _ _ (by rw [hH]; exact Nat.mul_mod_left _ _) hLs]
    obtain ⟨y1, hy1'⟩ : ∃ y1, y1 = Y / 4294967296 := ⟨_, rfl⟩
    obtain ⟨y0, hy0'⟩ : ∃ y0, y0 = Y % 4294967296 := ⟨_, rfl⟩
    obtain ⟨x1, hx1'⟩ : ∃ x1, x1 = X / 4294967296 := ⟨_, rfl⟩
    obtain ⟨x0, hx0'⟩ : ∃ x0, x0 = X % 4294967296 := ⟨_, rfl⟩
    have d1 : (Y : Int) / 4294967296 = (y1 : Int) := by omega
    have d0 : bits .and .u64 (Y : Int) 4294967295 = (y0 : Int) := by rw [and_low _ hYb, hy0']
    have c1 : (X : Int) / 4294967296 = (x1 : Int) := by omega
    have c0 : bits .and .u64 (X : Int) 4294967295 = (x0 : Int) := by rw [and_low _ hXb, hx0']
    obtain ⟨N, hN⟩ : ∃ N, N = H + L := ⟨_, rfl⟩
    rw [← hN] at eO hNY
    have HH := hid (And.intro hH (And.intro hL (And.intro hX (And.intro hY (And.intro hN hs3)))))
    have HYd : Hid (Y = y1 * 4294967296 + y0 ∧ y0 < 4294967296 ∧ y1 < 4294967296 ∧ 2147483648 ≤ y1 ∧ N < y1 * 4294967296 + y0) := hid (by unfold W64 at hYb; omega)
    have HXd : Hid (X = x1 * 4294967296 + x0 ∧ x0 < 4294967296 ∧ x1 < 4294967296) := hid (by unfold W64 at hXb; omega)
    have hy1p : (1 : Int) ≤ (y1 : Int) := by have := HYd.out; omega
    have hN0 : (0 : Int) ≤ (N : Int) := by omega
    have HXYb := hid (And.intro hXb (And.intro hYb hYl))
    clear hH hL hX hY hN hs1 hs2 hs3 hy1' hy0' hx1' hx0' hXb hHb hYb hYl hNY hLs HL
    obtain ⟨q, hq⟩ : ∃ q, q = N / y1 := ⟨_, rfl⟩
    obtain ⟨r, hr⟩ : ∃ r, r = N % y1 := ⟨_, rfl⟩
    obtain ⟨m, hm⟩ : ∃ m, m = q * y1 := ⟨_, rfl⟩
    have hqr : m + r = N := by rw [hm, hq, hr, Nat.mul_comm]; exact Nat.div_add_mod N y1
    have hq64 : N < W64 := by have := HXYb.out.2.1; have := HYd.out; omega
    unfold W64 at hq64
    have f1 : IntKind.u64.wrap ((N : Int) / (y1 : Int)) = (q : Int) := by
      rw [hq, ← Int.natCast_ediv]; exact wrap_in _ (Nat.lt_of_le_of_lt (Nat.div_le_self _ _) hq64)
    have f2 : IntKind.u64.wrap ((q : Int) * (y1 : Int)) = (m : Int) := by rw [cast_mul, ← hm]; exact wrap_in _ (by omega)
    have f3 : IntKind.u64.wrap ((N : Int) - (m : Int)) = (r : Int) := by rw [IntKind.wrap_u64]; omega
    have hy10 : 0 < y1 := by omega
    have HQ : Hid (r < 4294967296 ∧ Dq 4294967296 y1 y0 N x1 q r) := hid (by
      rw [hq, hr]
      refine ⟨by have := Nat.mod_lt N hy10; have := HYd.out; omega, Dq.start hy10 HXd.out.2.2⟩)
    have HN := hid hq64
    clear hq hr hm hqr hq64 hy10
    go_upto_block 0 with fail
    clear eY eH eL eX eO d1 d0 c1 c0 f1 f2 f3

    go_cut [15] (fun s15 wx => w = wx ∧ ∃ q : Nat, s15 = .int .u64 q ∧ Hid (q < 4294967296 ∧ q = (N * 4294967296 + x1) / (y1 * 4294967296 + y0)))
    case first =>
      go_wp2_with fail
      go_loop [15, 16] (fun s15 s16 => ∃ q r : Nat, s15 = .int .u64 q ∧ s16 = .int .u64 r ∧ Hid (r < 4294967296 ∧ Dq 4294967296 y1 y0 N x1 q r)) (fun s15 _ => (intOf s15).toNat)
      case atStart => exact ⟨q, r, rfl, rfl, HQ⟩
      case round =>
        clear HQ
        obtain ⟨q, r, rfl, rfl, HQ⟩ := hrel
        have step : (4294967296 ≤ q ∨ 4294967296 * r + x1 < q * y0) → ∃ p r2 : Nat, IntKind.u64.wrap ((q : Int) - 1) = (p : Int) ∧ IntKind.u64.wrap ((r : Int) + (y1 : Int)) = (r2 : Int) ∧ p < q ∧ Hid (Dq 4294967296 y1 y0 N x1 p r2) := fun hc => by
          obtain ⟨h1, h2⟩ := HQ.out.2.step HYd.out.2.2.2.2 HXd.out.2.2 hc
          refine ⟨q - 1, r + y1, ?_, ?_, by omega, hid h2⟩
          · rw [IntKind.wrap_u64]; have := Dq_qlt HQ.out.2 (by have := HYd.out.2.2.2.1; omega); have := HN.out; omega
          · rw [IntKind.wrap_u64]; have := HQ.out.1; have := HYd.out.2.2.1; omega
        have fin : ∀ q r : Nat, Dq 4294967296 y1 y0 N x1 q r → q < 4294967296 ∧ q * y0 ≤ 4294967296 * r + x1 → Hid (q < 4294967296 ∧ q = (N * 4294967296 + x1) / (y1 * 4294967296 + y0)) := fun q r h1 h2 => hid ⟨h2.1, h1.done h2.2⟩
        have FIN := hid fin
        clear fin
        by_cases hge : 4294967296 ≤ q
        · obtain ⟨p, r2, e1, e2, hpq, H2⟩ := step (.inl hge)
          have hge' : (4294967296 : Int) ≤ (q : Int) := by omega
          clear step
          by_cases hr2 : 4294967296 ≤ r2
          · have hr2' : (4294967296 : Int) ≤ (r2 : Int) := by omega
            have Hd := hid (H2.out.done2 HYd.out.2.2.2.2 HYd.out.2.1 hr2)
            go_wp2
            go_meet
            exact ⟨rfl, p, rfl, Hd⟩
          · have hr2' : ¬ (4294967296 : Int) ≤ (r2 : Int) := by omega
            go_wp2
            exact ⟨⟨p, r2, rfl, rfl, hid ⟨by omega, H2.out⟩⟩, by simp [intOf]; omega⟩
        · obtain ⟨m, hm⟩ : ∃ m, m = q * y0 := ⟨_, rfl⟩
          obtain ⟨z, hz⟩ : ∃ z, z = 4294967296 * r := ⟨_, rfl⟩
          obtain ⟨t, ht⟩ : ∃ t, t = 4294967296 * r + x1 := ⟨_, rfl⟩
          rw [← hm, ← ht] at step
          have hge' : ¬ (4294967296 : Int) ≤ (q : Int) := by omega
          have hmb : m < 18446744073709551616 := by
            have h1 : q * y0 ≤ 4294967295 * 4294967295 := Nat.mul_le_mul (by omega) (by have := HYd.out.2.1; omega)
            omega
          have g1 : IntKind.u64.wrap ((q : Int) * (y0 : Int)) = (m : Int) := by rw [cast_mul, ← hm]; exact wrap_in _ hmb
          have g2 : IntKind.u64.wrap (4294967296 * (r : Int)) = (z : Int) := by rw [IntKind.wrap_u64]; have := HQ.out.1; omega
          have g3 : IntKind.u64.wrap ((z : Int) + (x1 : Int)) = (t : Int) := by rw [IntKind.wrap_u64]; have := HQ.out.1; have := HXd.out.2.2; omega
          have HM := hid hm
          have HT := hid ht
          clear hm ht hmb hz
          by_cases hgt : t < m
          · obtain ⟨p, r2, e1, e2, hpq, H2⟩ := step (.inr hgt)
            have hgt' : (t : Int) < (m : Int) := by omega
            clear step
            by_cases hr2 : 4294967296 ≤ r2
            · have hr2' : (4294967296 : Int) ≤ (r2 : Int) := by omega
              have Hd := hid (H2.out.done2 HYd.out.2.2.2.2 HYd.out.2.1 hr2)
              go_wp2
              go_meet
              exact ⟨rfl, p, rfl, Hd⟩
            · have hr2' : ¬ (4294967296 : Int) ≤ (r2 : Int) := by omega
              go_wp2
              exact ⟨⟨p, r2, rfl, rfl, hid ⟨by omega, H2.out⟩⟩, by simp [intOf]; omega⟩
          · have hgt' : ¬ (t : Int) < (m : Int) := by omega
            have Hd := FIN.out q r HQ.out.2 ⟨by omega, by rw [← HM.out, ← HT.out]; omega⟩
            clear step
            go_wp2
            go_meet
            exact ⟨rfl, q, rfl, Hd⟩
    case rest =>
      obtain ⟨rfl, q1, rfl, HQ1⟩ := hcut
      have hYe := HYd.out.1
      have hYb := HXYb.out.2.1
      unfold W64 at hYb
      have hYp : 0 < Y := by omega
      obtain ⟨R, hR⟩ : ∃ R, R = (N * 4294967296 + x1) % Y := ⟨_, rfl⟩
      have hRY : R < Y := by rw [hR]; exact Nat.mod_lt _ hYp
      obtain ⟨C, hC⟩ : ∃ C, C = q1 * Y := ⟨_, rfl⟩
      have hCR : C + R = N * 4294967296 + x1 := by
        rw [hC, hR, HQ1.out.2, ← hYe, Nat.mul_comm]; exact Nat.div_add_mod _ _
      obtain ⟨A, hA⟩ : ∃ A, A = N * 4294967296 % 18446744073709551616 := ⟨_, rfl⟩
      obtain ⟨D, hD⟩ : ∃ D, D = C % 18446744073709551616 := ⟨_, rfl⟩
      obtain ⟨E, hE⟩ : ∃ E, E = (A + x1) % 18446744073709551616 := ⟨_, rfl⟩
      have f1 : IntKind.u64.wrap ((N : Int) * 4294967296) = (A : Int) := by rw [IntKind.wrap_u64]; omega
      have f2 : IntKind.u64.wrap ((A : Int) + (x1 : Int)) = (E : Int) := by rw [IntKind.wrap_u64]; omega
      have f3 : IntKind.u64.wrap ((q1 : Int) * (Y : Int)) = (D : Int) := by rw [cast_mul, ← hC, wrap_mod, hD]
      have f4 : IntKind.u64.wrap ((E : Int) - (D : Int)) = (R : Int) := by rw [IntKind.wrap_u64]; omega
      obtain ⟨q, hq⟩ : ∃ q, q = R / y1 := ⟨_, rfl⟩
      obtain ⟨r, hr⟩ : ∃ r, r = R % y1 := ⟨_, rfl⟩
      obtain ⟨m, hm⟩ : ∃ m, m = q * y1 := ⟨_, rfl⟩
      have hqr : m + r = R := by rw [hm, hq, hr, Nat.mul_comm]; exact Nat.div_add_mod R y1
      have hq64 : R < 18446744073709551616 := by omega
      have f5 : IntKind.u64.wrap ((R : Int) / (y1 : Int)) = (q : Int) := by
        rw [hq, ← Int.natCast_ediv]; exact wrap_in _ (Nat.lt_of_le_of_lt (Nat.div_le_self _ _) hq64)
      have f6 : IntKind.u64.wrap ((q : Int) * (y1 : Int)) = (m : Int) := by rw [cast_mul, ← hm]; exact wrap_in _ (by omega)
      have f7 : IntKind.u64.wrap ((R : Int) - (m : Int)) = (r : Int) := by rw [IntKind.wrap_u64]; omega
      have hy10 : 0 < y1 := by omega
      have HQ : Hid (r < 4294967296 ∧ Dq 4294967296 y1 y0 R x0 q r) := hid (by
        rw [hq, hr]
        refine ⟨by have := Nat.mod_lt R hy10; have := HYd.out; omega, Dq.start hy10 HXd.out.2.1⟩)
      have HR := hid hq64
      have HRY : Hid (R < y1 * 4294967296 + y0) := hid (by rw [← hYe]; exact hRY)
      have HRe := hid hR
      have hR0 : (0 : Int) ≤ (R : Int) := by omega
      clear hYe hYb hYp hR hRY hC hCR hA hD hE hq hr hm hqr hq64 hy10
      go_upto_block 2 with fail
      clear f1 f2 f3 f4 f5 f6 f7
      go_cut [18] (fun s15 wx => w = wx ∧ ∃ q : Nat, s15 = .int .u64 q ∧ Hid (q < 4294967296 ∧ q = (R * 4294967296 + x0) / (y1 * 4294967296 + y0)))
      case first =>
        go_wp2_with fail
        go_loop [18, 16] (fun s15 s16 => ∃ q r : Nat, s15 = .int .u64 q ∧ s16 = .int .u64 r ∧ Hid (r < 4294967296 ∧ Dq 4294967296 y1 y0 R x0 q r)) (fun s15 _ => (intOf s15).toNat)
        case atStart => exact ⟨q, r, rfl, rfl, HQ⟩
        case round =>
          clear HQ
          obtain ⟨q, r, rfl, rfl, HQ⟩ := hrel
          have step : (4294967296 ≤ q ∨ 4294967296 * r + x0 < q * y0) → ∃ p r2 : Nat, IntKind.u64.wrap ((q : Int) - 1) = (p : Int) ∧ IntKind.u64.wrap ((r : Int) + (y1 : Int)) = (r2 : Int) ∧ p < q ∧ Hid (Dq 4294967296 y1 y0 R x0 p r2) := fun hc => by
            obtain ⟨h1, h2⟩ := HQ.out.2.step HRY.out HXd.out.2.1 hc
            refine ⟨q - 1, r + y1, ?_, ?_, by omega, hid h2⟩
            · rw [IntKind.wrap_u64]; have := Dq_qlt HQ.out.2 (by have := HYd.out.2.2.2.1; omega); have := HR.out; omega
            · rw [IntKind.wrap_u64]; have := HQ.out.1; have := HYd.out.2.2.1; omega
          have fin : ∀ q r : Nat, Dq 4294967296 y1 y0 R x0 q r → q < 4294967296 ∧ q * y0 ≤ 4294967296 * r + x0 → Hid (q < 4294967296 ∧ q = (R * 4294967296 + x0) / (y1 * 4294967296 + y0)) := fun q r h1 h2 => hid ⟨h2.1, h1.done h2.2⟩
          have FIN := hid fin
          clear fin
          by_cases hge : 4294967296 ≤ q
          · obtain ⟨p, r2, e1, e2, hpq, H2⟩ := step (.inl hge)
            have hge' : (4294967296 : Int) ≤ (q : Int) := by omega
            clear step
            by_cases hr2 : 4294967296 ≤ r2
            · have hr2' : (4294967296 : Int) ≤ (r2 : Int) := by omega
              have Hd := hid (H2.out.done2 HRY.out HYd.out.2.1 hr2)
              go_wp2
              go_meet
              exact ⟨rfl, p, rfl, Hd⟩
            · have hr2' : ¬ (4294967296 : Int) ≤ (r2 : Int) := by omega
              go_wp2
              exact ⟨⟨p, r2, rfl, rfl, hid ⟨by omega, H2.out⟩⟩, by simp [intOf]; omega⟩
          · obtain ⟨m, hm⟩ : ∃ m, m = q * y0 := ⟨_, rfl⟩
            obtain ⟨z, hz⟩ : ∃ z, z = 4294967296 * r := ⟨_, rfl⟩
            obtain ⟨t, ht⟩ : ∃ t, t = 4294967296 * r + x0 := ⟨_, rfl⟩
            rw [← hm, ← ht] at step
            have hge' : ¬ (4294967296 : Int) ≤ (q : Int) := by omega
            have hmb : m < 18446744073709551616 := by
              have h1 : q * y0 ≤ 4294967295 * 4294967295 := Nat.mul_le_mul (by omega) (by have := HYd.out.2.1; omega)
              omega
            have g1 : IntKind.u64.wrap ((q : Int) * (y0 : Int)) = (m : Int) := by rw [cast_mul, ← hm]; exact wrap_in _ hmb
            have g2 : IntKind.u64.wrap (4294967296 * (r : Int)) = (z : Int) := by rw [IntKind.wrap_u64]; have := HQ.out.1; omega
            have g3 : IntKind.u64.wrap ((z : Int) + (x0 : Int)) = (t : Int) := by rw [IntKind.wrap_u64]; have := HQ.out.1; have := HXd.out.2.1; omega
            have HM := hid hm
            have HT := hid ht
            clear hm ht hmb hz
            by_cases hgt : t < m
            · obtain ⟨p, r2, e1, e2, hpq, H2⟩ := step (.inr hgt)
              have hgt' : (t : Int) < (m : Int) := by omega
              clear step
              by_cases hr2 : 4294967296 ≤ r2
              · have hr2' : (4294967296 : Int) ≤ (r2 : Int) := by omega
                have Hd := hid (H2.out.done2 HRY.out HYd.out.2.1 hr2)
                go_wp2
                go_meet
                exact ⟨rfl, p, rfl, Hd⟩
              · have hr2' : ¬ (4294967296 : Int) ≤ (r2 : Int) := by omega
                go_wp2
                exact ⟨⟨p, r2, rfl, rfl, hid ⟨by omega, H2.out⟩⟩, by simp [intOf]; omega⟩
            · have hgt' : ¬ (t : Int) < (m : Int) := by omega
              have Hd := FIN.out q r HQ.out.2 ⟨by omega, by rw [← HM.out, ← HT.out]; omega⟩
              clear step
              go_wp2
              go_meet
              exact ⟨rfl, q, rfl, Hd⟩
      case rest =>
        obtain ⟨rfl, q0, rfl, HQ0⟩ := hcut
        have hYe := HYd.out.1
        have hYb := HXYb.out.2.1
        unfold W64 at hYb
        have hYp : 0 < Y := by omega
        have hq1 := HQ1.out.1
        have hq0 := HQ0.out.1
        have hx0 := HXd.out.2.1
        obtain ⟨Z, hZ⟩ : ∃ Z, Z = (R * 4294967296 + x0) % Y := ⟨_, rfl⟩
        have hZY : Z < Y := by rw [hZ]; exact Nat.mod_lt _ hYp
        obtain ⟨C, hC⟩ : ∃ C, C = q0 * Y := ⟨_, rfl⟩
        have hCR : C + Z = R * 4294967296 + x0 := by
          rw [hC, hZ, HQ0.out.2, ← hYe, Nat.mul_comm]; exact Nat.div_add_mod _ _
        obtain ⟨A, hA⟩ : ∃ A, A = R * 4294967296 % 18446744073709551616 := ⟨_, rfl⟩
        obtain ⟨D, hD⟩ : ∃ D, D = C % 18446744073709551616 := ⟨_, rfl⟩
        obtain ⟨E, hE⟩ : ∃ E, E = (A + x0) % 18446744073709551616 := ⟨_, rfl⟩
        obtain ⟨F, hF⟩ : ∃ F, F = q1 * 4294967296 := ⟨_, rfl⟩
        obtain ⟨G, hG⟩ : ∃ G, G = F + q0 := ⟨_, rfl⟩
        have f0 : IntKind.u64.wrap ((q1 : Int) * 4294967296) = (F : Int) := by rw [IntKind.wrap_u64]; omega
        have f00 : IntKind.u64.wrap ((F : Int) + (q0 : Int)) = (G : Int) := by rw [IntKind.wrap_u64]; omega
        have f1 : IntKind.u64.wrap ((R : Int) * 4294967296) = (A : Int) := by rw [IntKind.wrap_u64]; omega
        have f2 : IntKind.u64.wrap ((A : Int) + (x0 : Int)) = (E : Int) := by rw [IntKind.wrap_u64]; omega
        have f3 : IntKind.u64.wrap ((q0 : Int) * (Y : Int)) = (D : Int) := by rw [cast_mul, ← hC, wrap_mod, hD]
        have f4 : IntKind.u64.wrap ((E : Int) - (D : Int)) = (Z : Int) := by rw [IntKind.wrap_u64]; omega
        have HG := hid (And.intro hG hF)
        have HZ := hid hZ
        have HYP := hid hYe
        clear hYe hYb hYp hq1 hq0 hx0 hZY hC hCR hA hD hE hZ hF hG
        go_wp2
        go_ret2
        obtain ⟨hH, hL, hX, hY, hN, hs3⟩ := HH.out
        have hS : 0 < 2 ^ s := Nat.pow_pos (by omega)
        have hT : 0 < 2 ^ (64 - s) := Nat.pow_pos (by omega)
        rw [← HYP.out] at HQ1 HQ0
        have hfin := div_words (B := 4294967296) (W := W64) (S := 2 ^ s) (T := 2 ^ (64 - s)) (hi := hi) (lo := lo) (y := y) (un1 := x1) (un0 := x0) (q1 := q1) (q0 := q0) (by decide) (two_pow_cut s hs) hS hT hlo hlt
          (by rw [← hX]; exact HXd.out.1) (by rw [← hH, ← hL, ← hN, ← hY]; exact HQ1.out.2) (by rw [← hH, ← hL, ← hN, ← hY, ← HRe.out]; exact HQ0.out.2)
        rw [← hH, ← hL, ← hN, ← hY, ← HRe.out, ← HZ.out] at hfin
        have k1 : (G : Int) = (((hi * W64 + lo) / y : Nat) : Int) := by rw [HG.out.1, HG.out.2, hfin.1]
        have k2 : (Z : Int) / 2 ^ s = (((hi * W64 + lo) % y : Nat) : Int) := by rw [← hfin.2]; simp
        rw [← k1, ← k2]
        exact ⟨rfl, 0, rfl⟩
end Go.Proofs.YtnfmjlomiihcnaaDoor

/-
  Contracts of natural.shiftUp and natural.shiftDown: words times, and divided by, a power of 2.
-/
set_option linter.unusedVariables false
set_option linter.unusedSimpArgs false
namespace Go.Proofs.YtnfmjlomiihcnaaDoor
open Go.RowKit Nm

theorem or_shift (a x n : Nat) (hn : n ≤ 63) (ha : a < 2 ^ n) : bits .or .u64 (a : Int) ((x * 2 ^ n % W64 : Nat) : Int) = ((a + x * 2 ^ n % W64 : Nat) : Int) ∧ a + x * 2 ^ n % W64 < W64 := by
  have hlow := shl_low (x := x) (two_pow_cut n hn)
  have hX : x * 2 ^ n % W64 < W64 := Nat.mod_lt _ (by decide)
  have hj := nat_join n (x * 2 ^ n % W64) a (by rw [hlow]; exact Nat.mul_mod_left _ _) ha
  have hb : a + x * 2 ^ n % W64 < W64 := by
    have h1 : x % 2 ^ (64 - n) < 2 ^ (64 - n) := Nat.mod_lt _ (Nat.pow_pos (by omega))
    have h2 := Nat.mul_le_mul_right (2 ^ n) (show x % 2 ^ (64 - n) + 1 ≤ 2 ^ (64 - n) from h1)
    rw [Nat.add_mul, Nat.one_mul, Nat.mul_comm (2 ^ (64 - n)), two_pow_cut n hn, ← hlow] at h2
    omega
  have ha2 : a < W64 := Nat.lt_of_le_of_lt (Nat.le_add_right _ _) hb
  refine ⟨?_, hb⟩
  rw [bits_or_u64_nat _ _ ha2 hX, Nat.or_comm, hj, Nat.add_comm]

set_option maxHeartbeats 1000000 in
theorem shiftUp_any (a : Option Addr) (L c n : Nat) (ws : List Nat) (w : World) (h : IRd w .u64 a L c ws) (hd : Dg W64 ws) (hn : n ≤ 63) (hL : L ≤ 900000) :
    Calls Tryd.prog 85 #[.slice a L c, .int .i64 n] w fun e w' => ∃ ys, e = .returned (.slice (some ⟨w.heap.size, 0, none⟩) (L + 1 : Nat) (L + 1 : Nat)) ∧ IRow w' w.heap.size 59 .u64 ys ∧
      Hid (ys.length = L + 1 ∧ V W64 ys = V W64 ws * 2 ^ n ∧ Dg W64 ys) ∧ w.grownBy w' none := by
  have hmax := h.max
  have hcap := h.cap
  have HL := hid h.len
  obtain ⟨g, hg⟩ : ∃ g, g = w.heap.size := ⟨_, rfl⟩
  go_enter Tryd.func85, Tryd.ntmps85
  go_wp2_with (first
      | (at_make; refine wl_make _ rfl _ _ 61 rfl 59 .u64 8 Tryd.underlying61 (by kernel_rfl) _ _ _ _ rfl rfl (L + 1) (by omega) (by omega) (by omega) (by omega) ?_; intro w1 hr1 hg1))
  rw [← hg] at hr1 ⊢
  have HG := hid hg
  clear hg
  go_loopw [14] (fun i wr => ∃ k : Nat, ∃ cu : List Nat, k ≤ L ∧ i = .int .i64 k ∧ IRow wr g 59 .u64 cu ∧ w1.grownBy wr (some g) ∧
      Hid (cu.length = L + 1 ∧ Dg W64 cu ∧ V W64 cu = V W64 (ws.take k) * 2 ^ n ∧ (∀ j, k < j → j < L + 1 → cu[j]? = some 0) ∧ ∀ t, cu[k]? = some t → t < 2 ^ n)) (fun i _ => L - (intOf i).toNat)
  case atStart => exact ⟨0, _, Nat.zero_le _, rfl, hr1, grown_refl _ _, hid ⟨by simp, Dg.zeros (by decide) _, by rw [V_zeros]; simp, fun j h1 h2 => by simp [h2], fun t ht => by
    have : t = 0 := by simpa using ht.symm
    rw [this]; exact Nat.pow_pos (by omega)⟩⟩
  case round =>
    obtain ⟨k, cu, hk, rfl, hr, hgr, HC⟩ := hrel
    by_cases hlt : k < L
    · have hku : k < ws.length := by rw [HL.out]; exact hlt
      obtain ⟨b', o', rfl, hc1⟩ := h.cel k hku
      have hbl := World.block_lt_of_cell? _ _ hc1
      have hc2 := hgr.cell (hg1.cell hc1 (by simp)) (by intro e; have := HG.out; simp at e hbl; omega)
      obtain ⟨x, hx⟩ : ∃ x, x = ws[k] := ⟨_, rfl⟩
      rw [← hx] at hc2
      have hxb : x < W64 := by rw [hx]; exact hd.get _ hku
      have hv := V_take_succ (B := W64) ws k hku
      rw [← hx] at hv
      have hcl : k < cu.length := by rw [HC.out.1]; omega
      have hcl1 : k + 1 < cu.length := by rw [HC.out.1]; omega
      have hcc := hr.cell k hcl
      have hfr := hr.free k
      have hcc1 := hr.cell (k + 1) hcl1
      have hfr1 := hr.free (k + 1)
      obtain ⟨t, ht⟩ : ∃ t, t = cu[k] := ⟨_, rfl⟩
      rw [← ht] at hcc
      have htb : t < 2 ^ n := HC.out.2.2.2.2 t (by rw [List.getElem?_eq_getElem hcl, ht])
      have h0 : cu[k + 1] = 0 := by
        have := HC.out.2.2.2.1 (k + 1) (by omega) (by omega)
        rw [List.getElem?_eq_getElem hcl1] at this
        simpa using this
      rw [h0] at hcc1
      have hup := up_step (W := W64) (S := 2 ^ n) (T := 2 ^ (64 - n)) (by decide) (two_pow_cut n hn) (Nat.pow_pos (by omega)) (Nat.pow_pos (by omega)) cu k x _ hcl1 hxb h0 HC.out.2.2.1
      have hos := or_shift t x n hn htb
      rw [← ht, ← hv] at hup
      obtain ⟨X, hX⟩ : ∃ X, X = x * 2 ^ n % W64 := ⟨_, rfl⟩
      obtain ⟨Z, hZ⟩ : ∃ Z, Z = x / 2 ^ (64 - n) := ⟨_, rfl⟩
      obtain ⟨U, hU⟩ : ∃ U, U = t + X := ⟨_, rfl⟩
      have hZb : Z < W64 := by rw [hZ]; exact Nat.lt_of_le_of_lt (Nat.div_le_self _ _) hxb
      rw [← hX, ← hU] at hos
      rw [← hX, ← hU, ← hZ] at hup
      have eX : IntKind.u64.wrap ((x : Int) * 2 ^ n) = (X : Int) := by
        rw [show ((x : Int) * 2 ^ n) = ((x * 2 ^ n : Nat) : Int) by simp, wrap_mod, hX]; rfl
      have eO := hos.1
      have eZ : (x : Int) / 2 ^ (64 - n) = (Z : Int) := by rw [hZ]; simp
      have HUP := hid hup
      have HUb := hid hos.2
      have HZb := hid hZb
      have hn0 : (0 : Int) ≤ (n : Int) := by omega
      have hn1 : (n : Int) ≤ 64 := by omega
      have hkk : (k : Int) + 1 < (L : Int) + 1 := by omega
      have hkk0 : (0 : Int) ≤ (k : Int) := by omega
      have hkk1 : (k : Int) < (L : Int) + 1 := by omega
      clear hx hv ht htb h0 hup hos hX hZ hU hZb hc1
      go_wp2
      go_region
      all_goals
        go_wp2
        refine ⟨⟨k + 1, (cu.set k U).set (k + 1) Z, by omega, rfl, ?_, ?_, hid ⟨by simpa using HC.out.1, (HC.out.2.1.set _ _ HUb.out).set _ _ HZb.out, HUP.out.1, fun j h1 h2 => ?_, fun t ht => ?_⟩⟩, by simp [intOf]; omega⟩
        · exact IRow.setv (IRow.setv (w := wr.drew) hr k _ U rfl) (k + 1) _ Z rfl
        · exact grown_trans (grown_trans (grown_trans hgr (grown_setCell _ _ _)) (grown_setCell _ _ _)) (grown_drew _ _)
        · rw [List.getElem?_set_ne (by omega), List.getElem?_set_ne (by omega)]
          exact HC.out.2.2.2.1 j (by omega) h2
        · rw [List.getElem?_set_self (by simpa using hcl1)] at ht
          rw [← Option.some.inj ht]; exact HUP.out.2
    · obtain rfl : k = L := by omega
      go_wp2
      go_ret
      have e1 := HC.out.2.2.1
      rw [List.take_of_length_le (by rw [HL.out]; exact Nat.le_refl _)] at e1
      exact ⟨cu, by rw [← HG.out]; rfl, by rw [← HG.out]; exact hr, hid ⟨HC.out.1, e1, HC.out.2.1⟩, grown_new hg1 hgr (fun g' e' => by cases e'; rw [HG.out]; exact Nat.le_refl _)⟩

set_option maxHeartbeats 1000000 in
theorem shiftDown_any (a : Option Addr) (L c n : Nat) (ws : List Nat) (w : World) (h : IRd w .u64 a L c ws) (hd : Dg W64 ws) (hn : n ≤ 63) (hL : L ≤ 900000) :
    Calls Tryd.prog 89 #[.slice a L c, .int .i64 n] w fun e w' => ∃ ys, e = .returned (.slice (some ⟨w.heap.size, 0, none⟩) L L) ∧ IRow w' w.heap.size 59 .u64 ys ∧
      Hid (ys.length = L ∧ V W64 ys = V W64 ws / 2 ^ n ∧ Dg W64 ys) ∧ w.grownBy w' none := by
  have hmax := h.max
  have hcap := h.cap
  have HL := hid h.len
  obtain ⟨g, hg⟩ : ∃ g, g = w.heap.size := ⟨_, rfl⟩
  go_enter Tryd.func89, Tryd.ntmps89
  go_wp2_with (first
      | (at_make; refine wl_make _ rfl _ _ 61 rfl 59 .u64 8 Tryd.underlying61 (by kernel_rfl) _ _ _ _ rfl rfl L (by omega) (by omega) (by omega) (by omega) ?_; intro w1 hr1 hg1))
  rw [← hg] at hr1 ⊢
  have HG := hid hg
  clear hg
  go_loopw [13] (fun i wr => ∃ k : Nat, ∃ cu : List Nat, k ≤ L ∧ i = .int .i64 k ∧ IRow wr g 59 .u64 cu ∧ w1.grownBy wr (some g) ∧
      Hid (cu.length = L ∧ Dg W64 cu ∧ V W64 cu = V W64 (ws.take k) / 2 ^ n ∧ (∀ j, k ≤ j → j < L → cu[j]? = some 0) ∧ ∀ j t, j + 1 = k → cu[j]? = some t → t < 2 ^ (64 - n))) (fun i _ => L - (intOf i).toNat)
  case atStart => exact ⟨0, _, Nat.zero_le _, rfl, hr1, grown_refl _ _, hid ⟨by simp, Dg.zeros (by decide) _, by rw [V_zeros]; simp, fun j h1 h2 => by simp [h2], fun j t hj ht => by omega⟩⟩
  case round =>
    obtain ⟨k, cu, hk, rfl, hr, hgr, HC⟩ := hrel
    by_cases hlt : k < L
    · have hku : k < ws.length := by rw [HL.out]; exact hlt
      obtain ⟨b', o', rfl, hc1⟩ := h.cel k hku
      have hbl := World.block_lt_of_cell? _ _ hc1
      have hc2 := hgr.cell (hg1.cell hc1 (by simp)) (by intro e; have := HG.out; simp at e hbl; omega)
      obtain ⟨x, hx⟩ : ∃ x, x = ws[k] := ⟨_, rfl⟩
      rw [← hx] at hc2
      have hxb : x < W64 := by rw [hx]; exact hd.get _ hku
      have hv := V_take_succ (B := W64) ws k hku
      rw [← hx] at hv
      have hcl : k < cu.length := by rw [HC.out.1]; omega
      have h0 : cu[k] = 0 := by
        have := HC.out.2.2.2.1 k (by omega) (by omega)
        rw [List.getElem?_eq_getElem hcl] at this
        simpa using this
      have hcc := hr.cell k hcl
      have hfr := hr.free k
      rw [h0] at hcc
      obtain ⟨Z, hZ⟩ : ∃ Z, Z = x / 2 ^ n := ⟨_, rfl⟩
      have hZb : Z < W64 := by rw [hZ]; exact Nat.lt_of_le_of_lt (Nat.div_le_self _ _) hxb
      have eZ : (x : Int) / 2 ^ n = (Z : Int) := by rw [hZ]; simp
      have hn0 : (0 : Int) ≤ (n : Int) := by omega
      have hn1 : (n : Int) ≤ 64 := by omega
      have hkk0 : (0 : Int) ≤ (k : Int) := by omega
      have hkk1 : (k : Int) < (L : Int) := by omega
      have hZt : Z < 2 ^ (64 - n) := by rw [hZ]; exact Nat.div_lt_of_lt_mul (by rw [two_pow_cut n hn]; exact hxb)
      by_cases hk0 : 0 < k
      · obtain ⟨j, rfl⟩ : ∃ j, k = j + 1 := ⟨k - 1, by omega⟩
        have hclj : j < cu.length := by omega
        have hccj := hr.cell j hclj
        have hfrj := hr.free j
        obtain ⟨t, ht⟩ : ∃ t, t = cu[j] := ⟨_, rfl⟩
        rw [← ht] at hccj
        have htb : t < 2 ^ (64 - n) := HC.out.2.2.2.2 j t rfl (by rw [List.getElem?_eq_getElem hclj, ht])
        have hds := down_step (W := W64) (S := 2 ^ n) (T := 2 ^ (64 - n)) (by decide) (two_pow_cut n hn) (Nat.pow_pos (by omega)) (Nat.pow_pos (by omega)) cu j x _ hcl hxb h0 HC.out.2.2.1
        have hos : bits .or .u64 (t : Int) ((x * 2 ^ (64 - n) % W64 : Nat) : Int) = ((t + x * 2 ^ (64 - n) % W64 : Nat) : Int) ∧ t + x * 2 ^ (64 - n) % W64 < W64 := by
          rcases Nat.eq_zero_or_pos n with hn0 | hn0
          · have e64 : x * 2 ^ (64 - n) % W64 = 0 := by rw [hn0]; exact Nat.mul_mod_left x W64
            rw [e64]
            have : t < W64 := by rw [hn0] at htb; exact htb
            exact ⟨by rw [bits_or_u64_nat _ _ this (by decide)]; simp, by simpa using this⟩
          · exact or_shift t x (64 - n) (by omega) htb
        rw [← ht, ← hv] at hds
        obtain ⟨X, hX⟩ : ∃ X, X = x * 2 ^ (64 - n) % W64 := ⟨_, rfl⟩
        obtain ⟨U, hU⟩ : ∃ U, U = t + X := ⟨_, rfl⟩
        rw [← hX, ← hU] at hos
        rw [← hX, ← hU, ← hZ] at hds
        have eX : IntKind.u64.wrap ((x : Int) * 2 ^ (64 - n)) = (X : Int) := by
          rw [show ((x : Int) * 2 ^ (64 - n)) = ((x * 2 ^ (64 - n) : Nat) : Int) by simp, wrap_mod, hX]; rfl
        have eO := hos.1
        have HUP := hid hds
        have HUb := hid hos.2
        have HZb := hid hZb
        have HZt := hid hZt
        have hj1 : (j : Int) < (L : Int) := by omega
        have hj0 : (0 : Int) ≤ (j : Int) := by omega
        clear hx hv ht htb h0 hds hos hX hZ hU hZb hc1 hZt
        go_wp2
        go_region
        all_goals
          go_wp2
          refine ⟨⟨j + 1 + 1, (cu.set (j + 1) Z).set j U, by omega, rfl, ?_, ?_, hid ⟨by simpa using HC.out.1, (HC.out.2.1.set _ _ HZb.out).set _ _ HUb.out, HUP.out.1, fun j' h1 h2 => ?_, fun j' t hj ht => ?_⟩⟩, by simp [intOf]; omega⟩
          · exact IRow.setv (IRow.setv (w := wr) hr (j + 1) _ Z rfl) j _ U rfl
          · exact grown_trans (grown_trans (grown_trans hgr (grown_setCell _ _ _)) (grown_setCell _ _ _)) (grown_drew _ _)
          · rw [List.getElem?_set_ne (by omega), List.getElem?_set_ne (by omega)]
            exact HC.out.2.2.2.1 j' (by omega) h2
          · obtain rfl : j' = j + 1 := by omega
            rw [List.getElem?_set_ne (by omega), List.getElem?_set_self hcl] at ht
            rw [← Option.some.inj ht]; exact HZt.out
      · obtain rfl : k = 0 := by omega
        have hdf := down_first (W := W64) (S := 2 ^ n) cu x hcl h0 (by rw [HC.out.2.2.1]; simp)
        rw [← hZ] at hdf
        have e2 : V W64 (cu.set 0 Z) = V W64 (ws.take 1) / 2 ^ n := by rw [hdf, hv, hZ]; simp
        have HUP := hid e2
        have HZb := hid hZb
        have HZt := hid hZt
        clear hx hv h0 hZ hZb hc1 hZt hdf e2
        rw [Nat.add_zero] at hc2
        go_wp2
        refine ⟨⟨1, cu.set 0 Z, by omega, rfl, IRow.setv (w := wr) hr 0 _ Z rfl, grown_trans hgr (grown_setCell _ _ _), hid ⟨by simpa using HC.out.1, HC.out.2.1.set _ _ HZb.out, HUP.out, fun j' h1 h2 => ?_, fun j' t hj ht => ?_⟩⟩, by simp [intOf]; omega⟩
        · rw [List.getElem?_set_ne (by omega)]
          exact HC.out.2.2.2.1 j' (by omega) h2
        · obtain rfl : j' = 0 := by omega
          rw [List.getElem?_set_self hcl] at ht
          rw [← Option.some.inj ht]; exact HZt.out
    · obtain rfl : k = L := by omega
      go_wp2
      go_ret
      have e1 := HC.out.2.2.1
      rw [List.take_of_length_le (by rw [HL.out]; exact Nat.le_refl _)] at e1
      exact ⟨cu, by rw [← HG.out]; rfl, by rw [← HG.out]; exact hr, hid ⟨HC.out.1, e1, HC.out.2.1⟩, grown_new hg1 hgr (fun g' e' => by cases e'; rw [HG.out]; exact Nat.le_refl _)⟩
end Go.Proofs.YtnfmjlomiihcnaaDoor

/-
  Contract of the closure of natural.divide that returns a digit of a quotient, or one more.
-/
set_option linter.unusedVariables false
set_option linter.unusedSimpArgs false
namespace Go.Proofs.YtnfmjlomiihcnaaDoor
open Go.RowKit Nm

theorem drewN_add (w : World) (a b : Nat) : (w.drewN a).drewN b = w.drewN (a + b) := by unfold World.drewN; simp [Nat.add_assoc]

set_option maxHeartbeats 1000000 in
theorem digit_any (high mid low first second : Nat) (hb : high < W64) (mb : mid < W64) (lb : low < W64) (fb : first < W64) (sb : second < W64) (fa sa : Addr) (w : World)
    (hf : w.cell? fa = some (.int .u64 first)) (hs : w.cell? sa = some (.int .u64 second)) :
    Calls Tryd.prog 86 #[.int .u64 high, .int .u64 mid, .int .u64 low, .pointer (some fa), .pointer (some sa)] w fun e w' => ∃ d : Nat, e = .returned (.int .u64 d) ∧
      Hid (d = if first ≤ high then W64 - 1 else (high * W64 * W64 + mid * W64 + low) / (first * W64 + second)) ∧ ∃ n, w' = w.drewN n := by
  by_cases hh : first ≤ high
  · have hh' : (first : Int) ≤ (high : Int) := by omega
    have HH := hid hh
    rw [if_pos hh]
    clear hh
    go_enter Tryd.func86, Tryd.ntmps86
    go_wp2
    go_ret
    exact ⟨18446744073709551615, rfl, hid rfl, 0, rfl⟩
  · have hlt : high < first := by omega
    have hh' : ¬ (first : Int) ≤ (high : Int) := by omega
    have hD := hid (div64_any high mid first hlt fb mb w)
    have hq : (high * W64 + mid) / first < W64 := Nat.div_lt_of_lt_mul (by
      have := Nat.mul_le_mul_right W64 (show high + 1 ≤ first from hlt)
      rw [Nat.add_mul, Nat.one_mul] at this; omega)
    have hr : (high * W64 + mid) % first < first := Nat.mod_lt _ (by omega)
    have HDQ := hid (Dq.start (B := W64) (y1 := first) (y0 := second) (n := high * W64 + mid) (u := low) (by omega) lb)
    have HN : Hid (high * W64 + mid < first * W64 + second) := hid (by
      have := Nat.mul_le_mul_right W64 (show high + 1 ≤ first from hlt)
      rw [Nat.add_mul, Nat.one_mul] at this; omega)
    have HE : Hid ((high * W64 + mid) * W64 + low = high * W64 * W64 + mid * W64 + low) := hid (by rw [Nat.add_mul])
    rw [if_neg hh]
    rw [← HE.out]
    obtain ⟨N, hN⟩ : ∃ N, N = high * W64 + mid := ⟨_, rfl⟩
    rw [← hN] at hD hq hr HDQ HN ⊢
    obtain ⟨q, hq'⟩ : ∃ q, q = N / first := ⟨_, rfl⟩
    obtain ⟨r, hr'⟩ : ∃ r, r = N % first := ⟨_, rfl⟩
    rw [← hq', ← hr'] at HDQ hD
    rw [← hq'] at hq
    rw [← hr'] at hr
    have hrW : r < W64 := Nat.lt_trans hr fb
    clear hN hq' hr' HE hh hr
    go_enter Tryd.func86, Tryd.ntmps86
    go_wp2_with (go_at_call 82; (with_reducible refine (hD.out).mono ?_); rintro e w' ⟨rfl, nd, rfl⟩)
    go_loopw [9, 10] (fun s9 s10 wr => ∃ q r n : Nat, s9 = .int .u64 q ∧ s10 = .int .u64 r ∧ q < W64 ∧ r < W64 ∧ wr = w.drewN n ∧ Hid (Dq W64 first second N low q r)) (fun s9 _ _ => (intOf s9).toNat)
    case atStart => exact ⟨q, r, nd, rfl, rfl, hq, hrW, rfl, HDQ⟩
    case round =>
      clear hq hrW HDQ
      obtain ⟨q, r, n, rfl, rfl, hq, hrW, rfl, HDQ⟩ := hrel
      have step : W64 * r + low < q * second → ∃ p r2 : Nat, IntKind.u64.wrap ((q : Int) - 1) = (p : Int) ∧ IntKind.u64.wrap ((r : Int) + (first : Int)) = (r2 : Int) ∧ p < q ∧ r2 < W64 ∧
          ((r2 < first ∧ Hid (p = (N * W64 + low) / (first * W64 + second))) ∨ (first ≤ r2 ∧ Hid (Dq W64 first second N low p r2))) := fun hc => by
        obtain ⟨h1, h2⟩ := HDQ.out.step HN.out lb (.inr hc)
        refine ⟨q - 1, (r + first) % 18446744073709551616, ?_, ?_, by omega, Nat.mod_lt _ (by decide), ?_⟩
        · rw [IntKind.wrap_u64]; unfold W64 at hq; omega
        · rw [IntKind.wrap_u64]; omega
        · unfold W64 at hrW fb
          by_cases ho : r + first < 18446744073709551616
          · right
            rw [Nat.mod_eq_of_lt ho]
            exact ⟨by omega, hid h2⟩
          · left
            refine ⟨by omega, hid (h2.done2 HN.out sb (by unfold W64; omega)).2⟩
      have STEP := hid step
      clear step
      have FIN := hid (fun h => HDQ.out.done h)
      go_wp2_with fail
      refine (mul64_any q second hq sb _).mono ?_
      rintro e w' ⟨hi, lo, rfl, hhi, hlo, HM, rfl⟩
      have back : ∀ c : Prop, (¬ c → W64 * r + low < q * second) → (c → q * second ≤ W64 * r + low) → (c ∧ Hid (q = (N * W64 + low) / (first * W64 + second))) ∨ (¬ c ∧ ∃ p r2 : Nat, IntKind.u64.wrap ((q : Int) - 1) = (p : Int) ∧ IntKind.u64.wrap ((r : Int) + (first : Int)) = (r2 : Int) ∧ p < q ∧ r2 < W64 ∧
          ((r2 < first ∧ Hid (p = (N * W64 + low) / (first * W64 + second))) ∨ (first ≤ r2 ∧ Hid (Dq W64 first second N low p r2)))) := fun c h1 h2 => by
        by_cases hc : c
        · exact .inl ⟨hc, hid (FIN.out (h2 hc))⟩
        · exact .inr ⟨hc, STEP.out (h1 hc)⟩
      rcases Nat.lt_trichotomy hi r with h1 | h1 | h1
      · have h1' : (hi : Int) < (r : Int) := by omega
        have hle : q * second ≤ W64 * r + low := by
          have := Nat.mul_le_mul_left W64 (show hi + 1 ≤ r from h1)
          rw [HM.out]; rw [Nat.mul_add] at this; omega
        have hfin := hid (FIN.out hle)
        clear back STEP FIN
        go_wp2
        go_ret
        exact ⟨q, rfl, hfin, n, rfl⟩
      · subst h1
        have h1' : ¬ (hi : Int) < (hi : Int) := by omega
        have h1e : (((hi : Int) == (hi : Int)) = true) := by simp
        by_cases h2 : lo ≤ low
        · have h2' : (lo : Int) ≤ (low : Int) := by omega
          have hfin := hid (FIN.out (by rw [HM.out]; omega))
          clear back STEP FIN
          go_wp2
          go_ret
          exact ⟨q, rfl, hfin, n, rfl⟩
        · have h2' : ¬ (lo : Int) ≤ (low : Int) := by omega
          obtain ⟨p, r2, e1, e2, hpq, hr2, h3⟩ := STEP.out (by rw [HM.out]; omega)
          clear back STEP FIN
          rcases h3 with ⟨h3, h4⟩ | ⟨h3, h4⟩
          · have h3' : (r2 : Int) < (first : Int) := by omega
            go_wp2
            go_ret
            exact ⟨p, rfl, h4, n, rfl⟩
          · have h3' : ¬ (r2 : Int) < (first : Int) := by omega
            go_wp2
            exact ⟨⟨p, r2, n, rfl, rfl, Nat.lt_trans hpq hq, hr2, rfl, h4⟩, by simp [intOf]; omega⟩
      · have h1' : ¬ (hi : Int) < (r : Int) := by omega
        have h1e : (((hi : Int) == (r : Int)) = false) := beq_eq_false_iff_ne.2 (by omega)
        obtain ⟨p, r2, e1, e2, hpq, hr2, h3⟩ := STEP.out (by
          have := Nat.mul_le_mul_left W64 (show r + 1 ≤ hi from h1)
          rw [HM.out]; rw [Nat.mul_add] at this; omega)
        clear back STEP FIN
        rcases h3 with ⟨h3, h4⟩ | ⟨h3, h4⟩
        · have h3' : (r2 : Int) < (first : Int) := by omega
          go_wp2
          go_ret
          exact ⟨p, rfl, h4, n, rfl⟩
        · have h3' : ¬ (r2 : Int) < (first : Int) := by omega
          go_wp2
          exact ⟨⟨p, r2, n, rfl, rfl, Nat.lt_trans hpq hq, hr2, rfl, h4⟩, by simp [intOf]; omega⟩

/-- the digit for three words of what is left and the two highest words of the divisor -/
def dgt (first second high mid low : Nat) : Nat := if first ≤ high then W64 - 1 else (high * W64 * W64 + mid * W64 + low) / (first * W64 + second)

theorem digit_q (high mid low first second : Nat) (hb : high < W64) (mb : mid < W64) (lb : low < W64) (fb : first < W64) (sb : second < W64) (fa sa : Addr) (w : World)
    (hf : w.cell? fa = some (.int .u64 first)) (hs : w.cell? sa = some (.int .u64 second)) :
    Calls Tryd.prog 86 #[.int .u64 high, .int .u64 mid, .int .u64 low, .pointer (some fa), .pointer (some sa)] w fun e w' => e = .returned (.int .u64 (dgt first second high mid low : Nat)) ∧ ∃ n, w' = w.drewN n :=
  (digit_any high mid low first second hb mb lb fb sb fa sa w hf hs).mono fun e w' ⟨d, he, hd, hw⟩ => ⟨by rw [he, hd.out]; rfl, hw⟩
end Go.Proofs.YtnfmjlomiihcnaaDoor

/-
  Contract of natural.divideByWord: the words are replaced by their quotient by a word, and the rest is returned.
-/
set_option linter.unusedVariables false
set_option linter.unusedSimpArgs false
namespace Go.Proofs.YtnfmjlomiihcnaaDoor
open Go.RowKit Nm

theorem div_down {W x y v Q : Nat} (hx : 0 < x) (hQ : Q = v / x) : (v % x * W + y) / x + W * Q = (y + W * v) / x ∧ (v % x * W + y) % x = (y + W * v) % x := by
  have h := Nat.div_add_mod v x
  have e : y + W * v = x * (W * Q) + (v % x * W + y) := by
    rw [hQ]
    have h2 := congrArg (W * ·) h
    simp only [Nat.mul_add] at h2
    rw [← h2, Nat.mul_left_comm, Nat.mul_comm (v % x) W]; omega
  rw [e]
  exact ⟨by rw [Nat.mul_add_div hx]; omega, by rw [Nat.mul_add_mod]⟩

set_option maxHeartbeats 1000000 in
theorem divW_any (g m c : Nat) (cur : List Nat) (x : Nat) (w : World) (hrow : IRow w g 59 .u64 cur) (hm : m ≤ cur.length) (hmc : m ≤ c) (hc : c ≤ 9223372036854775807) (hlen : cur.length ≤ 900000) (hcur : Dg W64 cur) (hx0 : 0 < x) (hx : x < W64) :
    Calls Tryd.prog 48 #[.slice (some ⟨g, 0, none⟩) m c, .int .u64 x] w fun e w' => ∃ cur' : List Nat, e = .returned (.int .u64 (V W64 (cur.take m) % x : Nat)) ∧ IRow w' g 59 .u64 cur' ∧ w.grownBy w' (some g) ∧
      Hid (cur'.length = cur.length ∧ Dg W64 cur' ∧ V W64 (cur'.take m) = V W64 (cur.take m) / x ∧ ∀ j, m ≤ j → cur'[j]? = cur[j]?) := by
  go_enter Tryd.func48, Tryd.ntmps48
  go_wp2_with fail
  go_loopw [5, 6] (fun s5 i wr => ∃ (k : Nat) (cu : List Nat), k ≤ m ∧ i = .int .i64 ((k : Int) - 1) ∧ s5 = .int .u64 (V W64 ((cur.take m).drop k) % x : Nat) ∧ IRow wr g 59 .u64 cu ∧ w.grownBy wr (some g) ∧
      Hid (cu.length = cur.length ∧ Dg W64 cu ∧ V W64 ((cu.take m).drop k) = V W64 ((cur.take m).drop k) / x ∧ ∀ j, j < k ∨ m ≤ j → cu[j]? = cur[j]?)) (fun _ i _ => (intOf i + 1).toNat)
  case atStart =>
    have e0 : (cur.take m).drop m = [] := List.drop_of_length_le (by simp; omega)
    refine ⟨m, cur, Nat.le_refl _, rfl, ?_, hrow, grown_refl _ _, hid ⟨rfl, hcur, ?_, fun _ _ => rfl⟩⟩
    · rw [e0]; simp
    · rw [e0]; simp
  case round =>
    obtain ⟨k, cu, hk, rfl, rfl, hr, hgr, HC⟩ := hrel
    by_cases h0 : 0 < k
    · obtain ⟨i, rfl⟩ : ∃ i, k = i + 1 := ⟨k - 1, by omega⟩
      have hil : i < cu.length := by rw [HC.out.1]; omega
      have hcc := hr.cell i hil
      have hfr := hr.free i
      obtain ⟨y, hy⟩ : ∃ y, y = cu[i] := ⟨_, rfl⟩
      rw [← hy] at hcc
      have hyb : y < W64 := by rw [hy]; exact HC.out.2.1.get _ hil
      have hyc : (cur.take m)[i]'(by simp; omega) = y := by
        have := HC.out.2.2.2 i (.inl (by omega))
        rw [List.getElem?_eq_getElem hil, List.getElem?_eq_getElem (by omega)] at this
        simp only [Option.some.injEq] at this
        rw [hy, this]; simp
      have hv := V_drop_succ (B := W64) (cur.take m) i (by simp; omega)
      rw [hyc] at hv
      obtain ⟨v, hv'⟩ : ∃ v, v = V W64 ((cur.take m).drop (i + 1)) := ⟨_, rfl⟩
      rw [← hv'] at hv ⊢
      have hdd := div_down (W := W64) (x := x) (y := y) (v := v) (Q := v / x) hx0 rfl
      obtain ⟨s, hs⟩ : ∃ s, s = v % x := ⟨_, rfl⟩
      have hsx : s < x := by rw [hs]; exact Nat.mod_lt _ hx0
      rw [← hs] at hdd ⊢
      obtain ⟨q, hq⟩ : ∃ q, q = (s * W64 + y) / x := ⟨_, rfl⟩
      obtain ⟨r, hr'⟩ : ∃ r, r = (s * W64 + y) % x := ⟨_, rfl⟩
      have HD := div64_any s y x hsx hx hyb
      rw [← hq, ← hr'] at hdd HD
      have HD' := hid HD
      have HV := hid hv
      have HV' := hid hv'
      have hqb : q < W64 := by rw [hq]; exact Nat.div_lt_of_lt_mul (by
        have := Nat.mul_le_mul_right W64 (show s + 1 ≤ x from hsx)
        rw [Nat.add_mul, Nat.one_mul] at this; omega)
      have HY := hid hy
      have HDD := hid hdd
      clear hy hyc hv hv' hs hq hr' HD hdd
      have hi1 : (0 : Int) ≤ (i : Int) := by omega
      have hi2 : (i : Int) < (m : Int) := by omega
      go_wp2_with (go_at_call 82; (with_reducible refine (HD'.out _).mono ?_); rintro e w' ⟨rfl, nd, rfl⟩)
      refine ⟨⟨i, cu.set i q, by omega, by congr 1, ?_, (IRow.setv (w := wr.drewN nd) hr i _ q rfl), grown_trans (gdN hgr nd) (grown_setCell _ _ _), hid ⟨by simpa using HC.out.1, HC.out.2.1.set _ _ hqb, ?_, fun j hj => ?_⟩⟩, by simp [intOf]⟩
      · rw [HV.out, HDD.out.2]
      · have e1 : ((cu.set i q).take m).drop i = q :: ((cu.take m).drop (i + 1)) := by
          rw [List.take_set, List.drop_eq_getElem_cons (by simp; omega)]
          congr 1
          · simp
          · rw [List.drop_set_of_lt (by omega)]
        rw [e1, V_cons, HC.out.2.2.1, HV.out, ← HDD.out.1, HV'.out]
      · rw [List.getElem?_set_ne (by omega)]
        exact HC.out.2.2.2 j (by omega)
    · obtain rfl : k = 0 := by omega
      go_wp2
      go_ret
      refine ⟨cu, rfl, hr, hgr, hid ⟨HC.out.1, HC.out.2.1, ?_, fun j hj => HC.out.2.2.2 j (.inr hj)⟩⟩
      have := HC.out.2.2.1
      rwa [List.drop_zero, List.drop_zero] at this
end Go.Proofs.YtnfmjlomiihcnaaDoor

/-
  Plain arithmetic of the division by hand: one round. No program is mentioned here.
-/
set_option linter.unusedVariables false
namespace Nm
theorem KInv.right {W n Lq v U i m d bor : Nat} {cu cq cu1 : List Nat} (hW : 1 < W) (h : KInv W n Lq v U (i + 1) cu cq) (hv : v ≤ W ^ m) (him : i + m ≤ n) (hm : 0 < m) (hiq : i < Lq) (hl : cu1.length = cu.length) (hd : Dg W cu1)
    (e : V W cu1 + W ^ i * (d * v) = V W cu + W ^ (i + m) * bor) (hs : ∀ j, j < i ∨ i + m ≤ j → cu1[j]? = cu[j]?) (him2 : i + m < cu.length)
    (hle : bor ≤ cu[i + m]) (hdW : d < W) (hlt : V W (cu.drop i) < (d + 1) * v) : KInv W n Lq v U i (cu1.set (i + m) 0) (cq.set i d) := by
  have h1 := knuth_sub hW h hv him hl hd e hs him2
  have h2 := clear_top hW h hv him hl hs
  have h3 := digit_right h1.1 hle hlt hv
  refine KInv.next (by omega) h (by omega) hiq (by simpa using hl) (hd.set _ _ (by omega)) h2.2 hdW ?_ ?_
  · rw [h2.1]; exact h3.1
  · rw [h2.1]; exact h3.2

theorem KInv.less {W n Lq v U i m d bor c : Nat} {cu cq cu1 cu2 : List Nat} (hW : 1 < W) (h : KInv W n Lq v U (i + 1) cu cq) (hv : v ≤ W ^ m) (him : i + m ≤ n) (hm : 0 < m) (hiq : i < Lq) (hl : cu1.length = cu.length) (hd : Dg W cu1)
    (e : V W cu1 + W ^ i * (d * v) = V W cu + W ^ (i + m) * bor) (hs : ∀ j, j < i ∨ i + m ≤ j → cu1[j]? = cu[j]?) (him2 : i + m < cu.length)
    (hlt : cu[i + m] < bor) (hdW : d < W) (hdv : d * v < V W (cu.drop i) + v) (hl2 : cu2.length = cu1.length) (hd2 : Dg W cu2) (e2 : V W cu2 + W ^ (i + m) * c = V W cu1 + W ^ i * v)
    (hs2 : ∀ j, j < i ∨ i + m ≤ j → cu2[j]? = cu1[j]?) : 1 ≤ d ∧ KInv W n Lq v U i (cu2.set (i + m) 0) (cq.set i (d - 1)) := by
  have hlu := h.lu
  have h1 := knuth_sub hW h hv him hl hd e hs him2
  have hs' : ∀ j, j < i ∨ i + m ≤ j → cu2[j]? = cu[j]? := fun j hj => (hs2 j hj).trans (hs j hj)
  have h2 := clear_top hW h hv him (hl2.trans hl) hs'
  obtain ⟨t1, t2⟩ := same_parts hs2
  have h4 := drop_level (W := W) (by omega) (by omega) hl2.symm t1.symm e2.symm
  have f1 := V_take_drop (B := W) (cu1.drop i) m (by simp; omega)
  have f2 := V_take_drop (B := W) (cu2.drop i) m (by simp; omega)
  rw [List.drop_drop] at f1 f2
  rw [t2] at f2
  have h5 : V W ((cu2.drop i).take m) + W ^ m * c = V W ((cu1.drop i).take m) + v := by omega
  have h6 : V W ((cu2.drop i).take m) < W ^ m := by
    have h7 := ((hd2.drop i).take m).lt
    have h8 : W ^ ((cu2.drop i).take m).length ≤ W ^ m := Nat.pow_le_pow_right (by omega) (List.length_take_le _ _)
    omega
  have h3 := digit_less h1.1 hlt h1.2 hdv h5 h6 hv
  refine ⟨h3.1, KInv.next (by omega) h (by omega) hiq (by simpa using hl2.trans hl) (hd2.set _ _ (by omega)) h2.2 (by omega) ?_ ?_⟩
  · rw [h2.1]; exact h3.2.1
  · rw [h2.1]; exact h3.2.2

/-- the digit that the three highest words give -/
theorem KInv.digit {W n Lq v U i m first second d : Nat} {cu cq zs : List Nat} (hW : 1 < W) (h : KInv W n Lq v U (i + 1) cu cq) (hv : v < W ^ (m + 2)) (hz : Dg W zs) (lz : zs.length = m + 2 + 1) (hvz : V W zs = v) (hvt : V W (zs.take (m + 2)) = v)
    (h1 : first = zs[m + 1]) (h0 : second = zs[m]) (hf : W ≤ 2 * first) (hi : i + (m + 2) < cu.length)
    (hd : d = if first ≤ cu[i + (m + 2)] then W - 1 else (cu[i + (m + 2)] * W * W + cu[i + (m + 1)] * W + cu[i + m]) / (first * W + second)) :
    d < W ∧ V W (cu.drop i) < (d + 1) * v ∧ d * v < V W (cu.drop i) + v := by
  have hlu := h.lu
  obtain ⟨Rlow, r1, r2, r3⟩ := three_words hW cu h.du i m (by omega) v (Nat.le_of_lt hv) h.lt (by omega)
  obtain ⟨Vlow, v1, v2⟩ := two_top hW (zs.take (m + 2)) (hz.take _) m (by simp; omega)
  rw [hvt] at v2
  have g1 : (zs.take (m + 2))[m + 1]'(by simp; omega) = first := by rw [h1]; simp
  have g0 : (zs.take (m + 2))[m]'(by simp; omega) = second := by rw [h0]; simp
  rw [g1, g0] at v2
  exact digit_est hf (by omega) v2 v1 r2 r1 (by rw [h0]; exact hz.get _ _) (h.du.get _ _) (h.du.get _ _) r3 hd
end Nm
