/-
  Contracts of math/bits.LeadingZeros64 and math/bits.Div64: the leading zeros of a word that is not 0; the quotient and the rest of two words by a greater word.
-/
import Derived.Test.YtdmlcddieadelaaGreatDoorLens
import Derived.Test.YtdmlcddieadelaaGreatDoorDivA
import Derived.Deep.CutBlock
import Derived.Deep.DeepCutAuto
set_option linter.unusedVariables false
set_option linter.unusedSimpArgs false
namespace Go.Proofs.YtdmlcddieadelaaGreatDoor
open Go.RowKit Nm

/-- s is the distance by which x must be shifted so that its highest bit is set -/
def IsLz (x s : Nat) : Prop := s ≤ 63 ∧ 9223372036854775808 ≤ x * 2 ^ s ∧ x * 2 ^ s < 18446744073709551616
theorem isLz_of (x l : Nat) (h : 1 ≤ l ∧ 2 ^ (l - 1) ≤ x ∧ x < 2 ^ l) (hl : l ≤ 64) : IsLz x (64 - l) := by
  obtain ⟨h1, h2, h3⟩ := h
  have p : 0 < 2 ^ (64 - l) := Nat.pow_pos (by omega)
  refine ⟨by omega, ?_, ?_⟩
  · have := Nat.mul_le_mul_right (2 ^ (64 - l)) h2
    rw [← Nat.pow_add, show l - 1 + (64 - l) = 63 by omega] at this
    exact this
  · have := Nat.mul_lt_mul_of_pos_right h3 p
    rw [← Nat.pow_add, show l + (64 - l) = 64 by omega] at this
    exact this

theorem lz_any (x : Nat) (h0 : 0 < x) (hx : x < W64) (w : World) :
    Calls Tryz.prog 168 #[.int .u64 x] w fun e w' => ∃ s : Nat, s ≤ 63 ∧ e = .returned (.int .i64 s) ∧ Hid (IsLz x s) ∧ w = w' := by
  have hb := bitLen_spec x hx
  have hb' : 1 ≤ Lib.bitLen x ∧ 2 ^ (Lib.bitLen x - 1) ≤ x ∧ x < 2 ^ Lib.bitLen x := by
    rcases hb with ⟨h, _⟩ | h
    · omega
    · exact h
  have HB := hid hb'
  clear hb hb'
  go_enter Tryz.func168, Tryz.ntmps168
  go_wp2_with (go_at_call 158; refine (len64_any x hx _).mono ?_; rintro e w' ⟨l, hl, HL, rfl, rfl⟩)
  go_ret
  have hz := HB.out
  rw [← HL.out] at hz
  have h1 := isLz_of x l hz hl
  exact ⟨64 - l, h1.1, ret_eq (congrArg (Value.int IntKind.i64) (by omega)), hid h1, rfl⟩

theorem two_pow_cut (s : Nat) (hs : s ≤ 63) : 2 ^ s * 2 ^ (64 - s) = W64 := by rw [← Nat.pow_add, show s + (64 - s) = 64 by omega]; decide
theorem Dq_qlt {B y1 y0 n u q r : Nat} (h : Dq B y1 y0 n u q r) (hy : 0 < y1) : q ≤ n := by
  have := h.e
  have := Nat.le_mul_of_pos_right q hy
  omega
theorem tuple2_eq {a b c d : Value} (h : a = b) (k : c = d) : Value.tuple #[a, c] = Value.tuple #[b, d] := by rw [h, k]
theorem bits64 : 2 ^ IntKind.u64.bits = 18446744073709551616 := by decide
theorem wrap_shl (n : Nat) : IntKind.u64.wrap (n : Int) = ((n % 2 ^ IntKind.u64.bits : Nat) : Int) := by rw [bits64]; exact wrap_mod n

set_option maxHeartbeats 1000000 in
theorem div64_any (hi lo y : Nat) (hlt : hi < y) (hy : y < W64) (hlo : lo < W64) (w : World) :
    Calls Tryz.prog 156 #[.int .u64 hi, .int .u64 lo, .int .u64 y] w fun e w' => e = .returned (.tuple #[.int .u64 ((hi * W64 + lo) / y : Nat), .int .u64 ((hi * W64 + lo) % y : Nat)]) ∧ ∃ n, w' = w.drewN n := by
  have hy1 : (1 : Int) ≤ (y : Int) := by omega
  have hlt' : ¬ ((y : Int) ≤ (hi : Int)) := by omega
  have hy0 : (((y : Int) == 0) = false) := beq_eq_false_iff_ne.2 (by omega)
  have L1 := hid (lz_any y (by omega) hy w)
  by_cases h0 : hi = 0
  · subst h0
    have e1 : IntKind.u64.wrap ((lo : Int) / (y : Int)) = ((lo / y : Nat) : Int) := by rw [← Int.natCast_ediv]; exact wrap_in _ (Nat.lt_of_le_of_lt (Nat.div_le_self _ _) hlo)
    have e2 : (lo : Int).tmod (y : Int) = ((lo % y : Nat) : Int) := rfl
    have hz : (((0 : Nat) : Int) == 0) = true := rfl
    rw [Nat.zero_mul, Nat.zero_add]
    go_enter Tryz.func156, Tryz.ntmps156
    go_wp2
    go_quiet (fail)
    go_wp2
    go_ret2
    exact ⟨rfl, _, rfl⟩
  · have hi0 : (((hi : Int) == 0) = false) := beq_eq_false_iff_ne.2 (by omega)
    go_enter Tryz.func156, Tryz.ntmps156
    go_upto_region 8 with (first
      | (go_at_call 168; (with_reducible refine (L1.out).mono ?_); rintro e w' ⟨s, hs, rfl, HL, rfl⟩))
    have hz := HL.out
    obtain ⟨hs1, hs2, hs3⟩ := hz
    obtain ⟨Y, hY⟩ : ∃ Y, Y = y * 2 ^ s := ⟨_, rfl⟩
    obtain ⟨H, hH⟩ : ∃ H, H = hi * 2 ^ s := ⟨_, rfl⟩
    obtain ⟨L, hL⟩ : ∃ L, L = lo / 2 ^ (64 - s) := ⟨_, rfl⟩
    obtain ⟨X, hX⟩ : ∃ X, X = lo * 2 ^ s % W64 := ⟨_, rfl⟩
    have hXb : X < W64 := by rw [hX]; exact Nat.mod_lt _ (by decide)
    have hHb : H < Y := by rw [hH, hY]; exact Nat.mul_lt_mul_of_pos_right hlt (Nat.pow_pos (by omega))
    have hYb : Y < W64 := by rw [hY]; exact hs3
    have hYl : 9223372036854775808 ≤ Y := by rw [hY]; exact hs2
    have hNY : H + L < Y := by rw [hH, hL, hY]; exact shift_lt (two_pow_cut s hs) (Nat.pow_pos (by omega)) hlo hlt
    have hLs : L < 2 ^ s := by
      rw [hL]; exact Nat.div_lt_of_lt_mul (by rw [Nat.mul_comm, two_pow_cut s hs]; exact hlo)
    have eY : IntKind.u64.wrap ((y : Int) * 2 ^ s) = (Y : Int) := by
      rw [hY, show ((y : Int) * 2 ^ s) = ((y * 2 ^ s : Nat) : Int) by simp, wrap_in _ hs3]
    have eH : IntKind.u64.wrap ((hi : Int) * 2 ^ s) = (H : Int) := by
      rw [show ((hi : Int) * 2 ^ s) = ((hi * 2 ^ s : Nat) : Int) by simp, ← hH, wrap_in _ (Nat.lt_trans hHb hYb)]
    have eL : (lo : Int) / 2 ^ (64 - s) = (L : Int) := by rw [hL]; simp
    have eX : IntKind.u64.wrap ((lo : Int) * 2 ^ s) = (X : Int) := by
      rw [show ((lo : Int) * 2 ^ s) = ((lo * 2 ^ s : Nat) : Int) by simp, wrap_mod, hX]; rfl
    have eO : bits .or .u64 (H : Int) (L : Int) = ((H + L : Nat) : Int) := by
      rw [bits_or_u64_nat _ _ (Nat.lt_trans hHb hYb) (by have := Nat.lt_trans hNY hYb; unfold W64 at this; omega), nat_join s _ _ (by rw [hH]; exact Nat.mul_mod_left _ _) hLs]
    obtain ⟨y1, hy1'⟩ : ∃ y1, y1 = Y / 4294967296 := ⟨_, rfl⟩
    obtain ⟨y0, hy0'⟩ : ∃ y0, y0 = Y % 4294967296 := ⟨_, rfl⟩
    obtain ⟨x1, hx1'⟩ : ∃ x1, x1 = X / 4294967296 := ⟨_, rfl⟩
    obtain ⟨x0, hx0'⟩ : ∃ x0, x0 = X % 4294967296 := ⟨_, rfl⟩
    have d1 : (Y : Int) / 4294967296 = (y1 : Int) := by omega
    have d0 : bits .and .u64 (Y : Int) 4294967295 = (y0 : Int) := by rw [and_low _ hYb, hy0']
    have c1 : (X : Int) / 4294967296 = (x1 : Int) := by omega
    have c0 : bits .and .u64 (X : Int) 4294967295 = (x0 : Int) := by rw [and_low _ hXb, hx0']
    obtain ⟨N, hN⟩ : ∃ N, N = H + L := ⟨_, rfl⟩
    rw [← hN] at eO hNY
    have HH := hid (And.intro hH (And.intro hL (And.intro hX (And.intro hY (And.intro hN hs3)))))
    have HYd : Hid (Y = y1 * 4294967296 + y0 ∧ y0 < 4294967296 ∧ y1 < 4294967296 ∧ 2147483648 ≤ y1 ∧ N < y1 * 4294967296 + y0) := hid (by unfold W64 at hYb; omega)
    have HXd : Hid (X = x1 * 4294967296 + x0 ∧ x0 < 4294967296 ∧ x1 < 4294967296) := hid (by unfold W64 at hXb; omega)
    have hy1p : (1 : Int) ≤ (y1 : Int) := by have := HYd.out; omega
    have hN0 : (0 : Int) ≤ (N : Int) := by omega
    have HXYb := hid (And.intro hXb (And.intro hYb hYl))
    clear hH hL hX hY hN hs1 hs2 hs3 hy1' hy0' hx1' hx0' hXb hHb hYb hYl hNY hLs HL
    obtain ⟨q, hq⟩ : ∃ q, q = N / y1 := ⟨_, rfl⟩
    obtain ⟨r, hr⟩ : ∃ r, r = N % y1 := ⟨_, rfl⟩
    obtain ⟨m, hm⟩ : ∃ m, m = q * y1 := ⟨_, rfl⟩
    have hqr : m + r = N := by rw [hm, hq, hr, Nat.mul_comm]; exact Nat.div_add_mod N y1
    have hq64 : N < W64 := by have := HXYb.out.2.1; have := HYd.out; omega
    unfold W64 at hq64
    have f1 : IntKind.u64.wrap ((N : Int) / (y1 : Int)) = (q : Int) := by
      rw [hq, ← Int.natCast_ediv]; exact wrap_in _ (Nat.lt_of_le_of_lt (Nat.div_le_self _ _) hq64)
    have f2 : IntKind.u64.wrap ((q : Int) * (y1 : Int)) = (m : Int) := by rw [cast_mul, ← hm]; exact wrap_in _ (by omega)
    have f3 : IntKind.u64.wrap ((N : Int) - (m : Int)) = (r : Int) := by rw [IntKind.wrap_u64]; omega
    have hy10 : 0 < y1 := by omega
    have HQ : Hid (r < 4294967296 ∧ Dq 4294967296 y1 y0 N x1 q r) := hid (by
      rw [hq, hr]
      refine ⟨by have := Nat.mod_lt N hy10; have := HYd.out; omega, Dq.start hy10 HXd.out.2.2⟩)
    have HN := hid hq64
    clear hq hr hm hqr hq64 hy10
    go_upto_block 0 with fail
    clear eY eH eL eX eO d1 d0 c1 c0 f1 f2 f3

    go_cut [15] (fun s15 wx => w = wx ∧ ∃ q : Nat, s15 = .int .u64 q ∧ Hid (q < 4294967296 ∧ q = (N * 4294967296 + x1) / (y1 * 4294967296 + y0)))
    case first =>
      go_wp2_with fail
      go_loop [15, 16] (fun s15 s16 => ∃ q r : Nat, s15 = .int .u64 q ∧ s16 = .int .u64 r ∧ Hid (r < 4294967296 ∧ Dq 4294967296 y1 y0 N x1 q r)) (fun s15 _ => (intOf s15).toNat)
      case atStart => exact ⟨q, r, rfl, rfl, HQ⟩
      case round =>
        clear HQ
        obtain ⟨q, r, rfl, rfl, HQ⟩ := hrel
        have step : (4294967296 ≤ q ∨ 4294967296 * r + x1 < q * y0) → ∃ p r2 : Nat, IntKind.u64.wrap ((q : Int) - 1) = (p : Int) ∧ IntKind.u64.wrap ((r : Int) + (y1 : Int)) = (r2 : Int) ∧ p < q ∧ Hid (Dq 4294967296 y1 y0 N x1 p r2) := fun hc => by
          obtain ⟨h1, h2⟩ := HQ.out.2.step HYd.out.2.2.2.2 HXd.out.2.2 hc
          refine ⟨q - 1, r + y1, ?_, ?_, by omega, hid h2⟩
          · rw [IntKind.wrap_u64]; have := Dq_qlt HQ.out.2 (by have := HYd.out.2.2.2.1; omega); have := HN.out; omega
          · rw [IntKind.wrap_u64]; have := HQ.out.1; have := HYd.out.2.2.1; omega
        have fin : ∀ q r : Nat, Dq 4294967296 y1 y0 N x1 q r → q < 4294967296 ∧ q * y0 ≤ 4294967296 * r + x1 → Hid (q < 4294967296 ∧ q = (N * 4294967296 + x1) / (y1 * 4294967296 + y0)) := fun q r h1 h2 => hid ⟨h2.1, h1.done h2.2⟩
        have FIN := hid fin
        clear fin
        by_cases hge : 4294967296 ≤ q
        · obtain ⟨p, r2, e1, e2, hpq, H2⟩ := step (.inl hge)
          have hge' : (4294967296 : Int) ≤ (q : Int) := by omega
          clear step
          by_cases hr2 : 4294967296 ≤ r2
          · have hr2' : (4294967296 : Int) ≤ (r2 : Int) := by omega
            have Hd := hid (H2.out.done2 HYd.out.2.2.2.2 HYd.out.2.1 hr2)
            go_wp2
            go_meet
            exact ⟨rfl, p, rfl, Hd⟩
          · have hr2' : ¬ (4294967296 : Int) ≤ (r2 : Int) := by omega
            go_wp2
            exact ⟨⟨p, r2, rfl, rfl, hid ⟨by omega, H2.out⟩⟩, by simp [intOf]; omega⟩
        · obtain ⟨m, hm⟩ : ∃ m, m = q * y0 := ⟨_, rfl⟩
          obtain ⟨z, hz⟩ : ∃ z, z = 4294967296 * r := ⟨_, rfl⟩
          obtain ⟨t, ht⟩ : ∃ t, t = 4294967296 * r + x1 := ⟨_, rfl⟩
          rw [← hm, ← ht] at step
          have hge' : ¬ (4294967296 : Int) ≤ (q : Int) := by omega
          have hmb : m < 18446744073709551616 := by
            have h1 : q * y0 ≤ 4294967295 * 4294967295 := Nat.mul_le_mul (by omega) (by have := HYd.out.2.1; omega)
            omega
          have g1 : IntKind.u64.wrap ((q : Int) * (y0 : Int)) = (m : Int) := by rw [cast_mul, ← hm]; exact wrap_in _ hmb
          have g2 : IntKind.u64.wrap (4294967296 * (r : Int)) = (z : Int) := by rw [IntKind.wrap_u64]; have := HQ.out.1; omega
          have g3 : IntKind.u64.wrap ((z : Int) + (x1 : Int)) = (t : Int) := by rw [IntKind.wrap_u64]; have := HQ.out.1; have := HXd.out.2.2; omega
          have HM := hid hm
          have HT := hid ht
          clear hm ht hmb hz
          by_cases hgt : t < m
          · obtain ⟨p, r2, e1, e2, hpq, H2⟩ := step (.inr hgt)
            have hgt' : (t : Int) < (m : Int) := by omega
            clear step
            by_cases hr2 : 4294967296 ≤ r2
            · have hr2' : (4294967296 : Int) ≤ (r2 : Int) := by omega
              have Hd := hid (H2.out.done2 HYd.out.2.2.2.2 HYd.out.2.1 hr2)
              go_wp2
              go_meet
              exact ⟨rfl, p, rfl, Hd⟩
            · have hr2' : ¬ (4294967296 : Int) ≤ (r2 : Int) := by omega
              go_wp2
              exact ⟨⟨p, r2, rfl, rfl, hid ⟨by omega, H2.out⟩⟩, by simp [intOf]; omega⟩
          · have hgt' : ¬ (t : Int) < (m : Int) := by omega
            have Hd := FIN.out q r HQ.out.2 ⟨by omega, by rw [← HM.out, ← HT.out]; omega⟩
            clear step
            go_wp2
            go_meet
            exact ⟨rfl, q, rfl, Hd⟩
    case rest =>
      obtain ⟨rfl, q1, rfl, HQ1⟩ := hcut
      have hYe := HYd.out.1
      have hYb := HXYb.out.2.1
      unfold W64 at hYb
      have hYp : 0 < Y := by omega
      obtain ⟨R, hR⟩ : ∃ R, R = (N * 4294967296 + x1) % Y := ⟨_, rfl⟩
      have hRY : R < Y := by rw [hR]; exact Nat.mod_lt _ hYp
      obtain ⟨C, hC⟩ : ∃ C, C = q1 * Y := ⟨_, rfl⟩
      have hCR : C + R = N * 4294967296 + x1 := by
        rw [hC, hR, HQ1.out.2, ← hYe, Nat.mul_comm]; exact Nat.div_add_mod _ _
      obtain ⟨A, hA⟩ : ∃ A, A = N * 4294967296 % 18446744073709551616 := ⟨_, rfl⟩
      obtain ⟨D, hD⟩ : ∃ D, D = C % 18446744073709551616 := ⟨_, rfl⟩
      obtain ⟨E, hE⟩ : ∃ E, E = (A + x1) % 18446744073709551616 := ⟨_, rfl⟩
      have f1 : IntKind.u64.wrap ((N : Int) * 4294967296) = (A : Int) := by rw [IntKind.wrap_u64]; omega
      have f2 : IntKind.u64.wrap ((A : Int) + (x1 : Int)) = (E : Int) := by rw [IntKind.wrap_u64]; omega
      have f3 : IntKind.u64.wrap ((q1 : Int) * (Y : Int)) = (D : Int) := by rw [cast_mul, ← hC, wrap_mod, hD]
      have f4 : IntKind.u64.wrap ((E : Int) - (D : Int)) = (R : Int) := by rw [IntKind.wrap_u64]; omega
      obtain ⟨q, hq⟩ : ∃ q, q = R / y1 := ⟨_, rfl⟩
      obtain ⟨r, hr⟩ : ∃ r, r = R % y1 := ⟨_, rfl⟩
      obtain ⟨m, hm⟩ : ∃ m, m = q * y1 := ⟨_, rfl⟩
      have hqr : m + r = R := by rw [hm, hq, hr, Nat.mul_comm]; exact Nat.div_add_mod R y1
      have hq64 : R < 18446744073709551616 := by omega
      have f5 : IntKind.u64.wrap ((R : Int) / (y1 : Int)) = (q : Int) := by
        rw [hq, ← Int.natCast_ediv]; exact wrap_in _ (Nat.lt_of_le_of_lt (Nat.div_le_self _ _) hq64)
      have f6 : IntKind.u64.wrap ((q : Int) * (y1 : Int)) = (m : Int) := by rw [cast_mul, ← hm]; exact wrap_in _ (by omega)
      have f7 : IntKind.u64.wrap ((R : Int) - (m : Int)) = (r : Int) := by rw [IntKind.wrap_u64]; omega
      have hy10 : 0 < y1 := by omega
      have HQ : Hid (r < 4294967296 ∧ Dq 4294967296 y1 y0 R x0 q r) := hid (by
        rw [hq, hr]
        refine ⟨by have := Nat.mod_lt R hy10; have := HYd.out; omega, Dq.start hy10 HXd.out.2.1⟩)
      have HR := hid hq64
      have HRY : Hid (R < y1 * 4294967296 + y0) := hid (by rw [← hYe]; exact hRY)
      have HRe := hid hR
      have hR0 : (0 : Int) ≤ (R : Int) := by omega
      clear hYe hYb hYp hR hRY hC hCR hA hD hE hq hr hm hqr hq64 hy10
      go_upto_block 2 with fail
      clear f1 f2 f3 f4 f5 f6 f7
      go_cut [18] (fun s15 wx => w = wx ∧ ∃ q : Nat, s15 = .int .u64 q ∧ Hid (q < 4294967296 ∧ q = (R * 4294967296 + x0) / (y1 * 4294967296 + y0)))
      case first =>
        go_wp2_with fail
        go_loop [18, 16] (fun s15 s16 => ∃ q r : Nat, s15 = .int .u64 q ∧ s16 = .int .u64 r ∧ Hid (r < 4294967296 ∧ Dq 4294967296 y1 y0 R x0 q r)) (fun s15 _ => (intOf s15).toNat)
        case atStart => exact ⟨q, r, rfl, rfl, HQ⟩
        case round =>
          clear HQ
          obtain ⟨q, r, rfl, rfl, HQ⟩ := hrel
          have step : (4294967296 ≤ q ∨ 4294967296 * r + x0 < q * y0) → ∃ p r2 : Nat, IntKind.u64.wrap ((q : Int) - 1) = (p : Int) ∧ IntKind.u64.wrap ((r : Int) + (y1 : Int)) = (r2 : Int) ∧ p < q ∧ Hid (Dq 4294967296 y1 y0 R x0 p r2) := fun hc => by
            obtain ⟨h1, h2⟩ := HQ.out.2.step HRY.out HXd.out.2.1 hc
            refine ⟨q - 1, r + y1, ?_, ?_, by omega, hid h2⟩
            · rw [IntKind.wrap_u64]; have := Dq_qlt HQ.out.2 (by have := HYd.out.2.2.2.1; omega); have := HR.out; omega
            · rw [IntKind.wrap_u64]; have := HQ.out.1; have := HYd.out.2.2.1; omega
          have fin : ∀ q r : Nat, Dq 4294967296 y1 y0 R x0 q r → q < 4294967296 ∧ q * y0 ≤ 4294967296 * r + x0 → Hid (q < 4294967296 ∧ q = (R * 4294967296 + x0) / (y1 * 4294967296 + y0)) := fun q r h1 h2 => hid ⟨h2.1, h1.done h2.2⟩
          have FIN := hid fin
          clear fin
          by_cases hge : 4294967296 ≤ q
          · obtain ⟨p, r2, e1, e2, hpq, H2⟩ := step (.inl hge)
            have hge' : (4294967296 : Int) ≤ (q : Int) := by omega
            clear step
            by_cases hr2 : 4294967296 ≤ r2
            · have hr2' : (4294967296 : Int) ≤ (r2 : Int) := by omega
              have Hd := hid (H2.out.done2 HRY.out HYd.out.2.1 hr2)
              go_wp2
              go_meet
              exact ⟨rfl, p, rfl, Hd⟩
            · have hr2' : ¬ (4294967296 : Int) ≤ (r2 : Int) := by omega
              go_wp2
              exact ⟨⟨p, r2, rfl, rfl, hid ⟨by omega, H2.out⟩⟩, by simp [intOf]; omega⟩
          · obtain ⟨m, hm⟩ : ∃ m, m = q * y0 := ⟨_, rfl⟩
            obtain ⟨z, hz⟩ : ∃ z, z = 4294967296 * r := ⟨_, rfl⟩
            obtain ⟨t, ht⟩ : ∃ t, t = 4294967296 * r + x0 := ⟨_, rfl⟩
            rw [← hm, ← ht] at step
            have hge' : ¬ (4294967296 : Int) ≤ (q : Int) := by omega
            have hmb : m < 18446744073709551616 := by
              have h1 : q * y0 ≤ 4294967295 * 4294967295 := Nat.mul_le_mul (by omega) (by have := HYd.out.2.1; omega)
              omega
            have g1 : IntKind.u64.wrap ((q : Int) * (y0 : Int)) = (m : Int) := by rw [cast_mul, ← hm]; exact wrap_in _ hmb
            have g2 : IntKind.u64.wrap (4294967296 * (r : Int)) = (z : Int) := by rw [IntKind.wrap_u64]; have := HQ.out.1; omega
            have g3 : IntKind.u64.wrap ((z : Int) + (x0 : Int)) = (t : Int) := by rw [IntKind.wrap_u64]; have := HQ.out.1; have := HXd.out.2.1; omega
            have HM := hid hm
            have HT := hid ht
            clear hm ht hmb hz
            by_cases hgt : t < m
            · obtain ⟨p, r2, e1, e2, hpq, H2⟩ := step (.inr hgt)
              have hgt' : (t : Int) < (m : Int) := by omega
              clear step
              by_cases hr2 : 4294967296 ≤ r2
              · have hr2' : (4294967296 : Int) ≤ (r2 : Int) := by omega
                have Hd := hid (H2.out.done2 HRY.out HYd.out.2.1 hr2)
                go_wp2
                go_meet
                exact ⟨rfl, p, rfl, Hd⟩
              · have hr2' : ¬ (4294967296 : Int) ≤ (r2 : Int) := by omega
                go_wp2
                exact ⟨⟨p, r2, rfl, rfl, hid ⟨by omega, H2.out⟩⟩, by simp [intOf]; omega⟩
            · have hgt' : ¬ (t : Int) < (m : Int) := by omega
              have Hd := FIN.out q r HQ.out.2 ⟨by omega, by rw [← HM.out, ← HT.out]; omega⟩
              clear step
              go_wp2
              go_meet
              exact ⟨rfl, q, rfl, Hd⟩
      case rest =>
        obtain ⟨rfl, q0, rfl, HQ0⟩ := hcut
        have hYe := HYd.out.1
        have hYb := HXYb.out.2.1
        unfold W64 at hYb
        have hYp : 0 < Y := by omega
        have hq1 := HQ1.out.1
        have hq0 := HQ0.out.1
        have hx0 := HXd.out.2.1
        obtain ⟨Z, hZ⟩ : ∃ Z, Z = (R * 4294967296 + x0) % Y := ⟨_, rfl⟩
        have hZY : Z < Y := by rw [hZ]; exact Nat.mod_lt _ hYp
        obtain ⟨C, hC⟩ : ∃ C, C = q0 * Y := ⟨_, rfl⟩
        have hCR : C + Z = R * 4294967296 + x0 := by
          rw [hC, hZ, HQ0.out.2, ← hYe, Nat.mul_comm]; exact Nat.div_add_mod _ _
        obtain ⟨A, hA⟩ : ∃ A, A = R * 4294967296 % 18446744073709551616 := ⟨_, rfl⟩
        obtain ⟨D, hD⟩ : ∃ D, D = C % 18446744073709551616 := ⟨_, rfl⟩
        obtain ⟨E, hE⟩ : ∃ E, E = (A + x0) % 18446744073709551616 := ⟨_, rfl⟩
        obtain ⟨F, hF⟩ : ∃ F, F = q1 * 4294967296 := ⟨_, rfl⟩
        obtain ⟨G, hG⟩ : ∃ G, G = F + q0 := ⟨_, rfl⟩
        have f0 : IntKind.u64.wrap ((q1 : Int) * 4294967296) = (F : Int) := by rw [IntKind.wrap_u64]; omega
        have f00 : IntKind.u64.wrap ((F : Int) + (q0 : Int)) = (G : Int) := by rw [IntKind.wrap_u64]; omega
        have f1 : IntKind.u64.wrap ((R : Int) * 4294967296) = (A : Int) := by rw [IntKind.wrap_u64]; omega
        have f2 : IntKind.u64.wrap ((A : Int) + (x0 : Int)) = (E : Int) := by rw [IntKind.wrap_u64]; omega
        have f3 : IntKind.u64.wrap ((q0 : Int) * (Y : Int)) = (D : Int) := by rw [cast_mul, ← hC, wrap_mod, hD]
        have f4 : IntKind.u64.wrap ((E : Int) - (D : Int)) = (Z : Int) := by rw [IntKind.wrap_u64]; omega
        have HG := hid (And.intro hG hF)
        have HZ := hid hZ
        have HYP := hid hYe
        clear hYe hYb hYp hq1 hq0 hx0 hZY hC hCR hA hD hE hZ hF hG
        go_wp2
        go_ret2
        obtain ⟨hH, hL, hX, hY, hN, hs3⟩ := HH.out
        have hS : 0 < 2 ^ s := Nat.pow_pos (by omega)
        have hT : 0 < 2 ^ (64 - s) := Nat.pow_pos (by omega)
        rw [← HYP.out] at HQ1 HQ0
        have hfin := div_words (B := 4294967296) (W := W64) (S := 2 ^ s) (T := 2 ^ (64 - s)) (hi := hi) (lo := lo) (y := y) (un1 := x1) (un0 := x0) (q1 := q1) (q0 := q0) (by decide) (two_pow_cut s hs) hS hT hlo hlt
          (by rw [← hX]; exact HXd.out.1) (by rw [← hH, ← hL, ← hN, ← hY]; exact HQ1.out.2) (by rw [← hH, ← hL, ← hN, ← hY, ← HRe.out]; exact HQ0.out.2)
        rw [← hH, ← hL, ← hN, ← hY, ← HRe.out, ← HZ.out] at hfin
        have k1 : (G : Int) = (((hi * W64 + lo) / y : Nat) : Int) := by rw [HG.out.1, HG.out.2, hfin.1]
        have k2 : (Z : Int) / 2 ^ s = (((hi * W64 + lo) % y : Nat) : Int) := by rw [← hfin.2]; simp
        rw [← k1, ← k2]
        exact ⟨rfl, 0, rfl⟩
end Go.Proofs.YtdmlcddieadelaaGreatDoor
