/-
  Contract of natural.difference: p x less q y, word by word.
-/
import Derived.Test.YtibjmibdboamcaaDoorSubP
set_option linter.unusedVariables false
set_option linter.unusedSimpArgs false
namespace Go.Proofs.YtibjmibdboamcaaDoor
open Go.RowKit Nm

/-- a word times a word and a carry: two words -/
theorem word_step (p x lo hi pl c cy : Nat) (hp : p < W64) (hx : x < W64) (hcy : cy < W64) (h1 : p * x = lo + W64 * hi) (h2 : lo + cy + 0 = pl + W64 * c) : p * x + cy = pl + W64 * (hi + c) ∧ hi + c < W64 := by
  have e : p * x + cy = pl + W64 * (hi + c) := by rw [Nat.mul_add]; omega
  refine ⟨e, Nat.lt_of_not_le fun h => ?_⟩
  have k1 : W64 * W64 ≤ W64 * (hi + c) := Nat.mul_le_mul_left _ h
  have k2 : p * x ≤ (W64 - 1) * (W64 - 1) := Nat.mul_le_mul (by omega) (by omega)
  have k3 : (W64 - 1) * (W64 - 1) + 2 * (W64 - 1) + 1 = W64 * W64 := by decide
  omega

theorem diff_round {W i pl ml bo d bo' a b plus plus' minus minus' Vd Vd' A B vx vy p q x y : Nat} (h1 : a + plus = pl + W * plus') (h2 : b + minus = ml + W * minus') (h3 : d + (ml + bo) = pl + W * bo') (ha : a = p * x) (hb : b = q * y)
    (e : Vd + q * vy + W ^ i * plus = p * vx + W ^ i * (minus + bo)) (hd : Vd' = Vd + W ^ i * d) (hx : A = vx + W ^ i * x) (hy : B = vy + W ^ i * y) :
    Vd' + q * B + W ^ (i + 1) * plus' = p * A + W ^ (i + 1) * (minus' + bo') := by
  have k1 := congrArg (W ^ i * ·) h1
  have k2 := congrArg (W ^ i * ·) h2
  have k3 := congrArg (W ^ i * ·) h3
  simp only [Nat.mul_add] at k1 k2 k3
  rw [hd, hx, hy, Nat.pow_succ, Nat.mul_add, Nat.mul_add, Nat.mul_assoc, Nat.mul_assoc, Nat.mul_add, Nat.mul_add]
  rw [Nat.mul_add] at e
  have m1 : q * (W ^ i * y) = W ^ i * b := by rw [hb, Nat.mul_left_comm]
  have m2 : p * (W ^ i * x) = W ^ i * a := by rw [ha, Nat.mul_left_comm]
  omega

theorem diff_end {N Vd A B plus mb : Nat} (e : Vd + B + N * plus = A + N * mb) (hle : B ≤ A) (hd : Vd < N) (hA : A - B < N) : Vd + B = A := by
  rcases Nat.lt_trichotomy plus mb with h | h | h
  · obtain ⟨t, rfl⟩ : ∃ t, mb = plus + 1 + t := ⟨mb - plus - 1, by omega⟩
    rw [Nat.mul_add, Nat.mul_add, Nat.mul_one] at e
    omega
  · subst h; omega
  · obtain ⟨t, rfl⟩ : ∃ t, plus = mb + 1 + t := ⟨plus - mb - 1, by omega⟩
    rw [Nat.mul_add, Nat.mul_add, Nat.mul_one] at e
    omega

set_option maxRecDepth 100000 in
set_option maxHeartbeats 2000000 in
theorem difference_any (g L cd : Nat) (dc xs ys : List Nat) (ax ay : Option Addr) (cx cy p q : Nat) (w : World) (hrow : IRow w g 64 .u64 dc) (hxr : IRd w .u64 ax L cx xs) (hyr : IRd w .u64 ay L cy ys)
    (hnx : ∀ a, ax = some a → some a.block ≠ some g) (hny : ∀ a, ay = some a → some a.block ≠ some g) (hL : L ≤ dc.length) (hlen : dc.length ≤ 900000000) (hLc : L ≤ cd) (hcd : cd ≤ 9223372036854775807)
    (hdc : Dg W64 dc) (hxs : Dg W64 xs) (hys : Dg W64 ys) (hp : p < W64) (hq : q < W64) (hle : q * V W64 ys ≤ p * V W64 xs) (hfit : p * V W64 xs - q * V W64 ys < W64 ^ L) :
    Calls Tryd.prog 112 #[.slice (some ⟨g, 0, none⟩) L cd, .int .u64 p, .slice ax L cx, .int .u64 q, .slice ay L cy] w fun e w' => ∃ dc' : List Nat, e = .returned (.tuple #[]) ∧ IRow w' g 64 .u64 dc' ∧ w.grownBy w' (some g) ∧
      Hid (dc'.length = dc.length ∧ Dg W64 dc' ∧ V W64 (dc'.take L) + q * V W64 ys = p * V W64 xs) := by
  have HLX := hid hxr.len
  have HLY := hid hyr.len
  have hxm := hxr.max
  have hxc := hxr.cap
  have hym := hyr.max
  have hyc := hyr.cap
  have HFIT := hid (And.intro hle hfit)
  clear hle hfit
  go_enter Tryd.func112, Tryd.ntmps112
  go_wp2_with fail
  go_loopw [10, 11, 12, 21] (fun s10 s11 s12 i wr => ∃ (k plus minus bo : Nat) (cu : List Nat), k ≤ L ∧ i = .int .i64 k ∧ s10 = .int .u64 plus ∧ s11 = .int .u64 minus ∧ s12 = .int .u64 bo ∧ plus < W64 ∧ minus < W64 ∧ bo ≤ 1 ∧ IRow wr g 64 .u64 cu ∧ w.grownBy wr (some g) ∧
      Hid (cu.length = dc.length ∧ Dg W64 cu ∧ V W64 (cu.take k) + q * V W64 (ys.take k) + W64 ^ k * plus = p * V W64 (xs.take k) + W64 ^ k * (minus + bo))) (fun _ _ _ i _ => L - (intOf i).toNat)
  case atStart => exact ⟨0, 0, 0, 0, dc, Nat.zero_le _, rfl, rfl, rfl, rfl, by decide, by decide, by omega, hrow, grown_refl _ _, hid ⟨rfl, hdc, by simp⟩⟩
  case round =>
    obtain ⟨k, plus, minus, bo, cu, hk, rfl, rfl, rfl, rfl, hplus, hminus, hbo, hr, hgr, HC⟩ := hrel
    by_cases hlt : k < L
    · obtain ⟨bx, ox, rfl, hcx⟩ := hxr.cel k (by rw [HLX.out]; exact hlt)
      obtain ⟨by', oy, rfl, hcy'⟩ := hyr.cel k (by rw [HLY.out]; exact hlt)
      have hx2 := hgr.cell hcx (hnx ⟨bx, ox, none⟩ rfl)
      have hy2 := hgr.cell hcy' (hny ⟨by', oy, none⟩ rfl)
      obtain ⟨x, hx⟩ : ∃ x, x = xs[k]'(by rw [HLX.out]; exact hlt) := ⟨_, rfl⟩
      obtain ⟨y, hy⟩ : ∃ y, y = ys[k]'(by rw [HLY.out]; exact hlt) := ⟨_, rfl⟩
      rw [← hx] at hx2
      rw [← hy] at hy2
      have hxb : x < W64 := by rw [hx]; exact hxs.get k _
      have hyb : y < W64 := by rw [hy]; exact hys.get k _
      have hvx := V_take_succ (B := W64) xs k (by rw [HLX.out]; exact hlt)
      have hvy := V_take_succ (B := W64) ys k (by rw [HLY.out]; exact hlt)
      rw [← hx] at hvx
      rw [← hy] at hvy
      have hcl : k < cu.length := by rw [HC.out.1]; omega
      have hcc := hr.cell k hcl
      have hfr := hr.free k
      obtain ⟨d0, hd0⟩ : ∃ d0, d0 = cu[k] := ⟨_, rfl⟩
      rw [← hd0] at hcc
      have HVX := hid hvx
      have HVY := hid hvy
      have hk1 : (k : Int) < (L : Int) := by omega
      have hk0 : (0 : Int) ≤ (k : Int) := by omega
      clear hx hy hd0 hcx hcy' hvx hvy
      go_wp2_with fail
      refine (mul64_any p x hp hxb _).mono ?_
      rintro e w' ⟨h1, l1, rfl, hh1, hl1, HM1, rfl⟩
      go_wp2_with (with_reducible refine wl_add64 _ rfl (.tmp 34) (.tmp 35) _ _ rfl _ _ 0 rfl rfl rfl hl1 hplus (by omega) ?_; intro pl c1 hpl hc1 HA1)
      have hs1 := word_step p x l1 h1 pl c1 plus hp hxb hplus HM1.out HA1.out
      have hw1 : IntKind.u64.wrap ((h1 : Int) + c1) = ((h1 + c1 : Nat) : Int) := by have := hs1.2; unfold W64 at this; rw [IntKind.wrap_u64]; omega
      refine (mul64_any q y hq hyb _).mono ?_
      rintro e w' ⟨h2, l2, rfl, hh2, hl2, HM2, rfl⟩
      go_wp2_with (first
        | (with_reducible refine wl_add64 _ rfl (.tmp 52) (.tmp 53) _ _ rfl _ _ 0 rfl rfl rfl hl2 hminus (by omega) ?_; intro ml c2 hml hc2 HA2)
        | (with_reducible refine wl_sub64 _ rfl (.tmp 63) (.tmp 64) (.tmp 65) _ rfl _ _ bo rfl rfl rfl hpl hml hbo ?_; intro dd bo' hdd hbo' HS))
      have hs2 := word_step q y l2 h2 ml c2 minus hq hyb hminus HM2.out HA2.out
      have hw2 : IntKind.u64.wrap ((h2 : Int) + c2) = ((h2 + c2 : Nat) : Int) := by have := hs2.2; unfold W64 at this; rw [IntKind.wrap_u64]; omega
      have hcut : V W64 ((cu.set k dd).take (k + 1)) = V W64 (cu.take k) + W64 ^ k * dd := by
        rw [V_take_succ _ k (by simpa using hcl), List.take_set, List.set_eq_of_length_le (by simp; omega)]
        simp
      refine ⟨⟨k + 1, h1 + c1, h2 + c2, bo', cu.set k dd, by omega, rfl, by first | rfl | rw [hw1] | simp, by first | rfl | rw [hw2] | simp, rfl, hs1.2, hs2.2, hbo', hr.setv k _ dd rfl, grown_trans hgr (grown_setCell _ _ _), hid ⟨by simpa using HC.out.1, HC.out.2.1.set _ _ hdd, ?_⟩⟩, by simp [intOf]; omega⟩
      exact diff_round hs1.1 hs2.1 HS.out rfl rfl HC.out.2.2 hcut HVX.out HVY.out
    · obtain rfl : k = L := by omega
      have hfin := HC.out.2.2
      rw [show ys.take k = ys from List.take_of_length_le (by rw [HLY.out]; exact Nat.le_refl _), show xs.take k = xs from List.take_of_length_le (by rw [HLX.out]; exact Nat.le_refl _)] at hfin
      have hlt2 : V W64 (cu.take k) < W64 ^ k := by
        have := (HC.out.2.1.take k).lt
        rw [List.length_take, Nat.min_eq_left (by rw [HC.out.1]; exact hL)] at this
        exact this
      have hres := hid (diff_end hfin HFIT.out.1 hlt2 HFIT.out.2)
      clear hfin hlt2
      go_wp2_with fail
      go_end0
      exact ⟨cu, rfl, hr, hgr, hid ⟨HC.out.1, HC.out.2.1, hres.out⟩⟩
end Go.Proofs.YtibjmibdboamcaaDoor
