/-
  Contract of natural.leading: the highest bits of two numbers, at the same places.
-/
import Derived.Test.YtibjmibdboamcaaDoorEuclid
import Derived.Test.YtibjmibdboamcaaDoorShW
set_option linter.unusedVariables false
set_option linter.unusedSimpArgs false
namespace Go.Proofs.YtibjmibdboamcaaDoor
open Go.RowKit Nm

/-- A and C are the numbers a and c without the same number of low bits -/
def IsLead (a c A C : Nat) : Prop := ∃ K a' c', 0 < K ∧ a' < K ∧ c' < K ∧ a = A * K + a' ∧ c = C * K + c'

theorem top_two {W : Nat} (hW : 1 < W) (xs : List Nat) (hd : Dg W xs) (m : Nat) (hl : xs.length = m + 2) (T : Nat) (hT : 0 < T) :
    V W xs / (W ^ m * T) = (xs[m + 1] * W + xs[m]) / T := by
  obtain ⟨lo, h1, h2⟩ := two_top hW xs hd m hl
  rw [← Nat.div_div_eq_div_mul, h2, Nat.mul_comm, Nat.mul_add_div (Nat.pow_pos (by omega)), Nat.div_eq_of_lt h1, Nat.add_zero]

theorem lead_word {S T W x1 x0 : Nat} (hST : S * T = W) (hT : 0 < T) : (x1 * W + x0) / T = x1 * S + x0 / T := by
  rw [← hST, ← Nat.mul_assoc, Nat.add_comm, Nat.mul_comm, Nat.add_mul_div_left _ _ hT, Nat.add_comm]

set_option maxHeartbeats 2000000 in
theorem leading_any (ax ay : Option Addr) (m cx cy : Nat) (xs ys : List Nat) (w : World) (hx : IRd w .u64 ax (m + 2) cx xs) (hy : IRd w .u64 ay (m + 2) cy ys) (hxd : Dg W64 xs) (hyd : Dg W64 ys) (hm : m ≤ 900000000)
    (htop : ∀ t, xs[m + 1]? = some t → 0 < t) (hle : V W64 ys ≤ V W64 xs) :
    Calls Tryd.prog 99 #[.slice ax (m + 2 : Nat) cx, .slice ay (m + 2 : Nat) cy] w fun e w' => ∃ A C : Nat, e = .returned (.tuple #[.int .u64 A, .int .u64 C]) ∧ A < W64 ∧ C ≤ A ∧ Hid (IsLead (V W64 xs) (V W64 ys) A C) ∧ ∃ n, w' = w.drewN n := by
  have hxl : xs.length = m + 2 := hx.len
  have hyl : ys.length = m + 2 := hy.len
  have hxm := hx.max
  have hxc := hx.cap
  have hym := hy.max
  have hyc := hy.cap
  obtain ⟨bx, ox, rfl, hx1⟩ := hx.cel (m + 1) (by omega)
  obtain ⟨by', oy, rfl, hy1⟩ := hy.cel (m + 1) (by omega)
  obtain ⟨bx', ox', ex, hx0⟩ := hx.cel m (by omega)
  cases ex
  obtain ⟨by2, oy2, ey, hy0⟩ := hy.cel m (by omega)
  cases ey
  obtain ⟨u1, hu1⟩ : ∃ u, u = xs[m + 1]'(by omega) := ⟨_, rfl⟩
  obtain ⟨u0, hu0⟩ : ∃ u, u = xs[m]'(by omega) := ⟨_, rfl⟩
  obtain ⟨v1, hv1⟩ : ∃ u, u = ys[m + 1]'(by omega) := ⟨_, rfl⟩
  obtain ⟨v0, hv0⟩ : ∃ u, u = ys[m]'(by omega) := ⟨_, rfl⟩
  rw [← hu1] at hx1
  rw [← hu0] at hx0
  rw [← hv1] at hy1
  rw [← hv0] at hy0
  have bu1 : u1 < W64 := by rw [hu1]; exact hxd.get _ _
  have bu0 : u0 < W64 := by rw [hu0]; exact hxd.get _ _
  have bv1 : v1 < W64 := by rw [hv1]; exact hyd.get _ _
  have bv0 : v0 < W64 := by rw [hv0]; exact hyd.get _ _
  have hpos : 0 < u1 := htop u1 (by rw [List.getElem?_eq_getElem (by omega), hu1])
  have hvu : v1 ≤ u1 := by
    rw [hu1, hv1, dig_get xs hxd (m + 1) (by omega), dig_get ys hyd (m + 1) (by omega)]
    have h1 : V W64 xs / W64 ^ (m + 1) < W64 := Nat.div_lt_of_lt_mul (by have := hxd.lt; rw [hxl, Nat.pow_succ] at this; exact this)
    have h2 : V W64 ys / W64 ^ (m + 1) < W64 := Nat.div_lt_of_lt_mul (by have := hyd.lt; rw [hyl, Nat.pow_succ] at this; exact this)
    rw [Nat.mod_eq_of_lt h1, Nat.mod_eq_of_lt h2]
    exact Nat.div_le_div_right hle
  have L1 := hid (lz_any u1 hpos bu1 w)
  have HUV := hid (And.intro hu1 (And.intro hu0 (And.intro hv1 hv0)))
  have HLE := hid hle
  clear hu1 hu0 hv1 hv0 hle htop
  have hm1 : (0 : Int) ≤ (m : Int) + 2 - 1 := by omega
  have hm2 : (0 : Int) ≤ (m : Int) + 2 - 2 := by omega
  go_enter Tryd.func99, Tryd.ntmps99
  go_wp2_with fail
  refine L1.out.mono ?_
  rintro e w' ⟨s, hs, rfl, HL, rfl⟩
  obtain ⟨T, hT⟩ : ∃ T, T = 64 - s := ⟨_, rfl⟩
  have hST : 2 ^ s * 2 ^ T = W64 := by rw [hT]; exact two_pow_cut s hs
  have hT0 : 0 < 2 ^ T := Nat.pow_pos (by omega)
  have l1 := HL.out.2.2
  have l2 : v1 * 2 ^ s < 18446744073709551616 := Nat.lt_of_le_of_lt (Nat.mul_le_mul_right _ hvu) l1
  obtain ⟨H1, hH1⟩ : ∃ H, H = u1 * 2 ^ s := ⟨_, rfl⟩
  obtain ⟨H2, hH2⟩ : ∃ H, H = v1 * 2 ^ s := ⟨_, rfl⟩
  obtain ⟨L1', hL1⟩ : ∃ H, H = u0 / 2 ^ T := ⟨_, rfl⟩
  obtain ⟨L2', hL2⟩ : ∃ H, H = v0 / 2 ^ T := ⟨_, rfl⟩
  rw [← hH1] at l1
  rw [← hH2] at l2
  have k1 : L1' < 2 ^ s := by rw [hL1]; exact Nat.div_lt_of_lt_mul (by rw [Nat.mul_comm, hST]; exact bu0)
  have k2 : L2' < 2 ^ s := by rw [hL2]; exact Nat.div_lt_of_lt_mul (by rw [Nat.mul_comm, hST]; exact bv0)
  have hpw : 2 ^ s < 18446744073709551616 := Nat.lt_of_lt_of_le (Nat.pow_lt_pow_right (by omega) (show s < 64 by omega)) (by decide)
  obtain ⟨A, hA⟩ : ∃ A, A = H1 + L1' := ⟨_, rfl⟩
  obtain ⟨C, hC⟩ : ∃ C, C = H2 + L2' := ⟨_, rfl⟩
  have eH1 : IntKind.u64.wrap ((u1 : Int) * 2 ^ s) = (H1 : Int) := by rw [show ((u1 : Int) * 2 ^ s) = ((u1 * 2 ^ s : Nat) : Int) by simp, ← hH1]; exact wrap_in _ l1
  have eH2 : IntKind.u64.wrap ((v1 : Int) * 2 ^ s) = (H2 : Int) := by rw [show ((v1 : Int) * 2 ^ s) = ((v1 * 2 ^ s : Nat) : Int) by simp, ← hH2]; exact wrap_in _ l2
  have eL1 : (u0 : Int) / 2 ^ T = (L1' : Int) := by rw [hL1]; simp
  have eL2 : (v0 : Int) / 2 ^ T = (L2' : Int) := by rw [hL2]; simp
  have eT : IntKind.i64.wrap (64 - (s : Int)) = (T : Int) := by rw [IntWalk.i64_in _ (by omega)]; omega
  have eT2 : (64 : Int) - (s : Int) = (T : Int) := by omega
  have ei1 : IntKind.i64.wrap ((m : Int) + 2 - 1) = (m : Int) + 2 - 1 := IntWalk.i64_in _ (by omega)
  have ei2 : IntKind.i64.wrap ((m : Int) + 2 - 2) = (m : Int) + 2 - 2 := IntWalk.i64_in _ (by omega)
  have eO1 : bits .or .u64 (H1 : Int) (L1' : Int) = (A : Int) := by rw [bits_or_u64_nat _ _ l1 (by omega), nat_join s _ _ (by rw [hH1]; exact Nat.mul_mod_left _ _) k1, hA]
  have eO2 : bits .or .u64 (H2 : Int) (L2' : Int) = (C : Int) := by rw [bits_or_u64_nat _ _ l2 (by omega), nat_join s _ _ (by rw [hH2]; exact Nat.mul_mod_left _ _) k2, hC]
  have hs0 : (0 : Int) ≤ (s : Int) := by omega
  have hT1 : (0 : Int) ≤ (T : Int) := by omega
  have fA : V W64 xs / (W64 ^ m * 2 ^ T) = A := by
    rw [top_two (by decide) xs hxd m hxl _ hT0, ← HUV.out.1, ← HUV.out.2.1, lead_word hST hT0, hA, hH1, hL1]
  have fC : V W64 ys / (W64 ^ m * 2 ^ T) = C := by
    rw [top_two (by decide) ys hyd m hyl _ hT0, ← HUV.out.2.2.1, ← HUV.out.2.2.2, lead_word hST hT0, hC, hH2, hL2]
  have hK : 0 < W64 ^ m * 2 ^ T := Nat.mul_pos (Nat.pow_pos (by decide)) hT0
  have hfin : A < W64 ∧ C ≤ A ∧ IsLead (V W64 xs) (V W64 ys) A C := by
    refine ⟨?_, ?_, ⟨W64 ^ m * 2 ^ T, V W64 xs % (W64 ^ m * 2 ^ T), V W64 ys % (W64 ^ m * 2 ^ T), hK, Nat.mod_lt _ hK, Nat.mod_lt _ hK, ?_, ?_⟩⟩
    · have h1 : u1 < 2 ^ T := Nat.lt_of_mul_lt_mul_right (a := 2 ^ s) (by rw [← hH1, Nat.mul_comm (2 ^ T), hST]; exact l1)
      have h2 : (u1 + 1) * 2 ^ s ≤ 2 ^ T * 2 ^ s := Nat.mul_le_mul_right _ h1
      rw [Nat.add_mul, Nat.one_mul, ← hH1, Nat.mul_comm (2 ^ T), hST] at h2
      omega
    · rw [← fA, ← fC]; exact Nat.div_le_div_right HLE.out
    · rw [← fA, Nat.mul_comm]; exact (Nat.div_add_mod _ _).symm
    · rw [← fC, Nat.mul_comm]; exact (Nat.div_add_mod _ _).symm
  have HFIN := hid hfin
  clear hT hST hH1 hH2 hL1 hL2 l1 l2 hA hC k1 k2 hpw fA fC hK hfin hT0
  go_wp2_with fail
  go_quiet (fail)
  go_wp2_with fail
  go_quiet (fail)
  go_wp2_with fail
  go_ret2
  exact ⟨A, C, rfl, HFIN.out.1, HFIN.out.2.1, hid HFIN.out.2.2, _, World.drewN_drewN _ _ _⟩
end Go.Proofs.YtibjmibdboamcaaDoor
