/-
  SubP Arith DivA Div64 ShW Digit DivW DivB Divide DivN RefDiv GcdA GcdW GcdB Euclid Lead Diff Rests WgA Wg Gcd GcdR, in one text.
-/
import Derived.Test.YthkgldpcgmnaiaaDoorMul
import Derived.Test.YthkgldpcgmnaiaaDoorDig
import Derived.Test.YthkgldpcgmnaiaaDoorLens
import Derived.Deep.CutBlock
import Derived.Deep.DeepCutAuto
import Derived.RegionTactic
import Derived.ChangeAlike
import Derived.Test.YthkgldpcgmnaiaaDoorDivS
import Derived.Test.YthkgldpcgmnaiaaDoorVal
import Derived.Test.YthkgldpcgmnaiaaDoorRefMul
import Derived.Lib.TrailingZeros
import Derived.IntWalk
import Derived.Test.YthkgldpcgmnaiaaDoorOwn
import Derived.Deep.RegionHeld3
import Derived.Deep.LoopGhost

set_option linter.unusedVariables false
set_option linter.unusedSimpArgs false
namespace Go.Proofs.YthkgldpcgmnaiaaDoor
open Go.RowKit Nm

theorem sub_step (x y lo hi p s1 c1 cy s2 c2 : Nat) (hx : x < W64) (hy : y < W64) (hp : p < W64) (hcy : cy < W64) (hs2 : s2 < W64) (h1 : x * y = lo + W64 * hi) (h2 : lo + cy + 0 = s1 + W64 * c1) (h3 : s2 + (s1 + 0) = p + W64 * c2) :
    s2 + (x * y + cy) = p + W64 * (hi + c1 + c2) ∧ hi + c1 + c2 < W64 := by
  have e : s2 + (x * y + cy) = p + W64 * (hi + c1 + c2) := by rw [Nat.mul_add, Nat.mul_add]; omega
  refine ⟨e, Nat.lt_of_not_le fun h => ?_⟩
  have k1 : W64 * W64 ≤ W64 * (hi + c1 + c2) := Nat.mul_le_mul_left _ h
  have k2 : x * y ≤ (W64 - 1) * (W64 - 1) := Nat.mul_le_mul (by omega) (by omega)
  have k3 : (W64 - 1) * (W64 - 1) + 2 * (W64 - 1) + 1 = W64 * W64 := by decide
  omega

set_option maxHeartbeats 2000000 in
theorem subProduct_any (g off pc : Nat) (cur ys : List Nat) (q : Option Addr) (m d x : Nat) (w : World) (hrow : IRow w g 38 .u64 cur) (hq : IRd w .u64 q m d ys) (hne : ∀ p, q = some p → some p.block ≠ some g)
    (hoff : off + m ≤ cur.length) (hlen : cur.length ≤ 900000) (hcur : Dg W64 cur) (hys : Dg W64 ys) (hx : x < W64) :
    Calls Tryd.prog 85 #[.slice (some ⟨g, off, none⟩) m pc, .slice q m d, .int .u64 x] w fun e w' => ∃ (cy : Nat) (cur' : List Nat), e = .returned (.int .u64 cy) ∧ cy < W64 ∧ IRow w' g 38 .u64 cur' ∧ w.grownBy w' (some g) ∧
      Hid (cur'.length = cur.length ∧ Dg W64 cur' ∧ V W64 cur' + W64 ^ off * (x * V W64 ys) = V W64 cur + W64 ^ (off + m) * cy ∧ ∀ j, j < off ∨ off + m ≤ j → cur'[j]? = cur[j]?) := by
  have HL := hid hq.len
  have hqm := hq.max
  have hqc := hq.cap
  go_enter Tryd.func85, Tryd.ntmps85
  go_wp2_with fail
  go_loopw [7, 15] (fun s7 i wr => ∃ (k cy : Nat) (cu : List Nat), k ≤ m ∧ i = .int .i64 k ∧ s7 = .int .u64 cy ∧ cy < W64 ∧ IRow wr g 38 .u64 cu ∧ w.grownBy wr (some g) ∧
      Hid (cu.length = cur.length ∧ Dg W64 cu ∧ V W64 cu + W64 ^ off * (x * V W64 (ys.take k)) = V W64 cur + W64 ^ (off + k) * cy ∧ ∀ j, j < off ∨ off + k ≤ j → cu[j]? = cur[j]?)) (fun _ i _ => m - (intOf i).toNat)
  case atStart => exact ⟨0, 0, cur, Nat.zero_le _, rfl, rfl, by decide, hrow, grown_refl _ _, hid ⟨rfl, hcur, by simp, fun _ _ => rfl⟩⟩
  case round =>
    obtain ⟨k, cy, cu, hk, rfl, rfl, hcy, hr, hgr, HC⟩ := hrel
    by_cases hlt : k < m
    · obtain ⟨b', o', rfl, hc1⟩ := hq.cel k (by rw [HL.out]; exact hlt)
      have hc2 := hgr.cell hc1 (hne ⟨b', o', none⟩ rfl)
      obtain ⟨y, hy⟩ : ∃ y, y = ys[k]'(by rw [HL.out]; exact hlt) := ⟨_, rfl⟩
      rw [← hy] at hc2
      have hyb : y < W64 := by rw [hy]; exact hys.get k _
      have hcl : off + k < cu.length := by rw [HC.out.1]; omega
      have hcc := hr.cell (off + k) hcl
      have hfr := hr.free (off + k)
      obtain ⟨p, hp⟩ : ∃ p, p = cu[off + k] := ⟨_, rfl⟩
      rw [← hp] at hcc
      have hpb : p < W64 := by rw [hp]; exact HC.out.2.1.get _ hcl
      have HP := hid hp
      have HY := hid hy
      clear hp hy hc1
      go_wp2_with (first
        | (go_at_call 84; refine (mul64_any x y hx hyb _).mono ?_; rintro e w' ⟨hi, lo, rfl, hhi, hlo, HM, rfl⟩)
        | (with_reducible refine wl_add64 _ rfl (.tmp 27) (.tmp 28) _ _ rfl _ _ 0 rfl rfl rfl hlo hcy (by omega) ?_; intro s1 c1 hs1 hc1 H1)
        | (with_reducible refine wl_sub64 _ rfl (.tmp 41) (.tmp 42) _ _ rfl _ _ 0 rfl rfl rfl hpb hs1 (by omega) ?_; intro s2 c2 hs2 hc2 H2))
      have hm := sub_step x y lo hi p s1 c1 cy s2 c2 hx hyb hpb hcy hs2 HM.out H1.out H2.out
      have hw : IntKind.u64.wrap (IntKind.u64.wrap ((hi : Int) + c1) + c2) = ((hi + c1 + c2 : Nat) : Int) := by
        have h2 : hi + c1 + c2 < 18446744073709551616 := hm.2
        rw [IntKind.wrap_u64, IntKind.wrap_u64]; omega
      have hs := step_sub (B := W64) cu (off + k) s2 (hi + c1 + c2) (x * y + cy) hcl (by rw [← HP.out]; exact hm.1)
      have hv := V_take_succ (B := W64) ys k (by rw [HL.out]; exact hlt)
      rw [← HY.out] at hv
      refine ⟨⟨k + 1, hi + c1 + c2, _, by omega, rfl, by rw [hw], hm.2, hr.setv _ _ s2 rfl, grown_trans hgr (grown_setCell _ _ _),
        hid ⟨by simpa using HC.out.1, HC.out.2.1.set _ _ hs2, ?_, fun j hj => ?_⟩⟩, by simp [intOf]; omega⟩
      · rw [hv, Nat.mul_add x, Nat.mul_add (W64 ^ off)]
        have h0 := HC.out.2.2.1
        rw [Nat.mul_add (W64 ^ (off + k)) (x * y) cy] at hs
        have e1 : W64 ^ off * (x * (W64 ^ k * y)) = W64 ^ (off + k) * (x * y) := by
          rw [Nat.pow_add, Nat.mul_assoc, Nat.mul_left_comm x]
        rw [e1]
        have e2 : off + (k + 1) = off + k + 1 := by omega
        rw [e2]
        omega
      · rw [List.getElem?_set_ne (by omega)]
        exact HC.out.2.2.2 j (by omega)
    · obtain rfl : k = m := by omega
      go_wp2
      go_ret
      refine ⟨cy, cu, rfl, hcy, hr, hgr, hid ⟨HC.out.1, HC.out.2.1, ?_, HC.out.2.2.2⟩⟩
      have := HC.out.2.2.1
      rwa [List.take_of_length_le (by rw [HL.out]; exact Nat.le_refl _)] at this

set_option maxHeartbeats 2000000 in
theorem addWords_any (g off pc : Nat) (cur ys : List Nat) (q : Option Addr) (m d : Nat) (w : World) (hrow : IRow w g 38 .u64 cur) (hq : IRd w .u64 q m d ys) (hne : ∀ p, q = some p → some p.block ≠ some g)
    (hoff : off + m ≤ cur.length) (hlen : cur.length ≤ 900000) (hcur : Dg W64 cur) (hys : Dg W64 ys) :
    Calls Tryd.prog 86 #[.slice (some ⟨g, off, none⟩) m pc, .slice q m d] w fun e w' => ∃ (cy : Nat) (cur' : List Nat), e = .returned (.int .u64 cy) ∧ IRow w' g 38 .u64 cur' ∧ w.grownBy w' (some g) ∧
      Hid (cur'.length = cur.length ∧ Dg W64 cur' ∧ V W64 cur' + W64 ^ (off + m) * cy = V W64 cur + W64 ^ off * V W64 ys ∧ ∀ j, j < off ∨ off + m ≤ j → cur'[j]? = cur[j]?) := by
  have HL := hid hq.len
  have hqm := hq.max
  have hqc := hq.cap
  go_enter Tryd.func86, Tryd.ntmps86
  go_wp2_with fail
  go_loopw [5, 10] (fun s7 i wr => ∃ (k cy : Nat) (cu : List Nat), k ≤ m ∧ i = .int .i64 k ∧ s7 = .int .u64 cy ∧ cy ≤ 1 ∧ IRow wr g 38 .u64 cu ∧ w.grownBy wr (some g) ∧
      Hid (cu.length = cur.length ∧ Dg W64 cu ∧ V W64 cu + W64 ^ (off + k) * cy = V W64 cur + W64 ^ off * V W64 (ys.take k) ∧ ∀ j, j < off ∨ off + k ≤ j → cu[j]? = cur[j]?)) (fun _ i _ => m - (intOf i).toNat)
  case atStart => exact ⟨0, 0, cur, Nat.zero_le _, rfl, rfl, by omega, hrow, grown_refl _ _, hid ⟨rfl, hcur, by simp, fun _ _ => rfl⟩⟩
  case round =>
    obtain ⟨k, cy, cu, hk, rfl, rfl, hcy, hr, hgr, HC⟩ := hrel
    by_cases hlt : k < m
    · obtain ⟨b', o', rfl, hc1⟩ := hq.cel k (by rw [HL.out]; exact hlt)
      have hc2 := hgr.cell hc1 (hne ⟨b', o', none⟩ rfl)
      obtain ⟨y, hy⟩ : ∃ y, y = ys[k]'(by rw [HL.out]; exact hlt) := ⟨_, rfl⟩
      rw [← hy] at hc2
      have hyb : y < W64 := by rw [hy]; exact hys.get k _
      have hcl : off + k < cu.length := by rw [HC.out.1]; omega
      have hcc := hr.cell (off + k) hcl
      have hfr := hr.free (off + k)
      obtain ⟨p, hp⟩ : ∃ p, p = cu[off + k] := ⟨_, rfl⟩
      rw [← hp] at hcc
      have hpb : p < W64 := by rw [hp]; exact HC.out.2.1.get _ hcl
      have HP := hid hp
      have HY := hid hy
      clear hp hy hc1
      go_wp2_with (with_reducible refine wl_add64 _ rfl (.tmp 21) (.tmp 22) (.tmp 23) _ rfl _ _ cy rfl rfl rfl hpb hyb hcy ?_; intro s1 c1 hs1 hc1 H1)
      have hs := step_add (B := W64) cu (off + k) s1 c1 (y + cy) hcl (by rw [← HP.out]; have := H1.out; omega)
      have hv := V_take_succ (B := W64) ys k (by rw [HL.out]; exact hlt)
      rw [← HY.out] at hv
      refine ⟨⟨k + 1, c1, _, by omega, rfl, rfl, hc1, hr.setv _ _ s1 rfl, grown_trans hgr (grown_setCell _ _ _),
        hid ⟨by simpa using HC.out.1, HC.out.2.1.set _ _ hs1, ?_, fun j hj => ?_⟩⟩, by simp [intOf]; omega⟩
      · rw [hv, Nat.mul_add (W64 ^ off)]
        have h0 := HC.out.2.2.1
        rw [Nat.mul_add (W64 ^ (off + k)) y cy] at hs
        have e1 : W64 ^ off * (W64 ^ k * y) = W64 ^ (off + k) * y := by rw [Nat.pow_add, Nat.mul_assoc]
        rw [e1]
        have e2 : off + (k + 1) = off + k + 1 := by omega
        rw [e2]
        omega
      · rw [List.getElem?_set_ne (by omega)]
        exact HC.out.2.2.2 j (by omega)
    · obtain rfl : k = m := by omega
      go_wp2
      go_ret
      refine ⟨cy, cu, rfl, hr, hgr, hid ⟨HC.out.1, HC.out.2.1, ?_, HC.out.2.2.2⟩⟩
      have := HC.out.2.2.1
      rwa [List.take_of_length_le (by rw [HL.out]; exact Nat.le_refl _)] at this
end Go.Proofs.YthkgldpcgmnaiaaDoor

namespace Nm
/-- three words by two: the estimate of a digit is exact or one too great -/
theorem est (W first second high mid low n r v d Vlow Rlow : Nat) (hf : W ≤ 2 * first) (hd : d < W)
    (hv : v = (first * W + second) * n + Vlow) (hV : Vlow < n) (hr : r = (high * W * W + mid * W + low) * n + Rlow) (hR : Rlow < n)
    (h1 : d * (first * W + second) ≤ high * W * W + mid * W + low) (h2 : high * W * W + mid * W + low < (d + 1) * (first * W + second)) :
    r < (d + 1) * v ∧ d * v < r + v := by
  have hW : 0 < W := by omega
  have hfp : 0 < first := by omega
  generalize hN : high * W * W + mid * W + low = N at *
  generalize hD : first * W + second = D at *
  subst hv; subst hr
  constructor
  · have a : N + 1 ≤ (d + 1) * D := h2
    have b : (N + 1) * n ≤ (d + 1) * D * n := Nat.mul_le_mul_right n a
    have c : (d + 1) * (D * n + Vlow) = (d + 1) * D * n + (d + 1) * Vlow := by rw [Nat.mul_add, Nat.mul_assoc]
    rw [Nat.add_mul, Nat.one_mul] at b
    omega
  · have a : d * D * n ≤ N * n := Nat.mul_le_mul_right n h1
    have b : d * Vlow ≤ d * n := Nat.mul_le_mul_left d (by omega)
    have c : d * (D * n + Vlow) = d * D * n + d * Vlow := by rw [Nat.mul_add, Nat.mul_assoc]
    have e : W ≤ D := by
      have : 1 * W ≤ first * W := Nat.mul_le_mul_right W hfp
      omega
    have f : d * n ≤ D * n := Nat.mul_le_mul_right n (by omega)
    have g : 0 < n := by omega
    have i : (d + 1) * n ≤ D * n := Nat.mul_le_mul_right n (by omega)
    rw [Nat.add_mul, Nat.one_mul] at i
    omega

/-- the highest word is not less than the divisor's: the greatest digit will do -/
theorem est_top (W first n r v high mid Vlow Rlow : Nat) (hf : W ≤ 2 * first) (hW : 2 ≤ W)
    (hv : v = first * n + Vlow) (hV : Vlow < n) (hr : r = high * (n * W) + mid * n + Rlow) (hh : first ≤ high) (hlt : r < W * v) :
    r < (W - 1 + 1) * v ∧ (W - 1) * v < r + v := by
  constructor
  · rw [Nat.sub_add_cancel (by omega)]; exact hlt
  · have a : first * (n * W) ≤ high * (n * W) := Nat.mul_le_mul_right _ hh
    obtain ⟨k, rfl⟩ : ∃ k, W = k + 2 := ⟨W - 2, by omega⟩
    have e : (k + 2 - 1) * v = k * v + v := by rw [show k + 2 - 1 = k + 1 by omega, Nat.add_mul, Nat.one_mul]
    rw [e]
    have b : k * v < r := by
      subst hv
      have c : k * Vlow ≤ k * n := Nat.mul_le_mul_left k (by omega)
      have d : k * (first * n + Vlow) = k * first * n + k * Vlow := by rw [Nat.mul_add, Nat.mul_assoc]
      have f : first * (n * (k + 2)) = k * first * n + 2 * first * n := by
        rw [Nat.mul_add, Nat.mul_add, Nat.mul_comm n k, ← Nat.mul_assoc, Nat.mul_comm first k, Nat.mul_comm n 2, ← Nat.mul_assoc, Nat.mul_comm first 2]
      have g : (k + 2) * n ≤ 2 * first * n := Nat.mul_le_mul_right n hf
      rw [Nat.add_mul] at g
      omega
    omega
end Nm
namespace Nm
/-- one step of Newton's iteration for the square root: from the root of the highest bits to that of twice as many -/
theorem newton (a t m m1 p : Nat) (hp : p = 2 ^ t) (ht : 1 ≤ t) (h1 : (a - 1) * (a - 1) < m1) (h2 : m1 < (a + 1) * (a + 1)) (ha : 1 ≤ a) (hm : m1 = m / (p * p)) (hap : p ≤ 2 * a)
    (b : Nat) (hb : b = a * 2 ^ (t - 1) + m / (2 * p) / a) :
    (b - 1) * (b - 1) < m ∧ m < (b + 1) * (b + 1) ∧ 1 ≤ b := by
  obtain ⟨h, hh⟩ : ∃ h, h = 2 ^ (t - 1) := ⟨_, rfl⟩
  have hp2 : p = 2 * h := by rw [hp, hh, ← Nat.pow_succ']; congr 1; omega
  have hhp : 0 < h := by rw [hh]; exact Nat.pow_pos (by omega)
  have hpp : 0 < p := by omega
  rw [← hh, Nat.div_div_eq_div_mul] at hb
  -- x = p a
  obtain ⟨x, hx⟩ : ∃ x, x = p * a := ⟨_, rfl⟩
  have hxp : 0 < x := by rw [hx]; exact Nat.mul_pos hpp (by omega)
  have hx2 : x = 2 * (a * h) := by rw [hx, hp2, Nat.mul_assoc, Nat.mul_comm h a]
  have hq : 2 * p * a = 2 * x := by rw [hx, Nat.mul_assoc]
  rw [hq] at hb
  have hdm := Nat.div_add_mod m (2 * x)
  have hml := Nat.mod_lt m (show 0 < 2 * x by omega)
  generalize m / (2 * x) = q at *
  generalize m % (2 * x) = r at *
  -- 2 x b = x^2 + 2 x q
  have e1 : 2 * x * b = x * x + 2 * x * q := by
    rw [hb, Nat.mul_add]; congr 1
    have : 2 * x * (a * h) = x * (2 * (a * h)) := by rw [Nat.mul_comm 2 x, Nat.mul_assoc]
    rw [this, ← hx2]
  have lo : 2 * x * b ≤ x * x + m := by omega
  have hi : x * x + m < 2 * x * b + 2 * x := by omega
  have hbx : 1 ≤ b := by
    rw [hb]
    have : 0 < a * h := Nat.mul_pos (by omega) hhp
    omega
  -- bounds of m
  have hdm2 := Nat.div_add_mod m (p * p)
  have hml2 := Nat.mod_lt m (Nat.mul_pos hpp hpp)
  rw [← hm] at hdm2
  generalize m % (p * p) = s at *
  refine ⟨?_, ?_, hbx⟩
  · -- (b-1)^2 < m
    refine Nat.lt_of_not_le fun hge => ?_
    obtain ⟨c, rfl⟩ : ∃ c, b = c + 1 := ⟨b - 1, by omega⟩
    have hc' : m ≤ c * c := by simpa using hge
    obtain ⟨d, rfl⟩ : ∃ d, a = d + 1 := ⟨a - 1, by omega⟩
    have h1' : d * d + 1 ≤ m1 := h1
    have h2' : m1 + 1 ≤ (d + 1 + 1) * (d + 1 + 1) := h2
    have k1 : p * p * (d * d + 1) ≤ p * p * m1 := Nat.mul_le_mul_left _ h1'
    have k2 : p * p * (m1 + 1) ≤ p * p * ((d + 1 + 1) * (d + 1 + 1)) := Nat.mul_le_mul_left _ h2'
    have k3 : p * p * ((d + 1 + 1) * (d + 1 + 1)) = (x + p) * (x + p) := by
      have : x + p = p * (d + 1 + 1) := by rw [hx, Nat.mul_add p (d + 1) 1, Nat.mul_one]
      rw [this, Nat.mul_assoc, Nat.mul_assoc, ← Nat.mul_assoc p (d + 1 + 1), ← Nat.mul_assoc (d+1+1) p, Nat.mul_comm p (d + 1 + 1)]
    have hpx : p * p ≤ 2 * x := by
      rw [hx]
      have : p * p ≤ p * (2 * (d + 1)) := Nat.mul_le_mul_left p hap
      have e : p * (2 * (d + 1)) = 2 * (p * (d + 1)) := by rw [← Nat.mul_assoc, Nat.mul_comm p 2, Nat.mul_assoc]
      omega
    rw [Nat.mul_add, Nat.mul_one] at k2
    have e2 : (x + p) * (x + p) = x * x + 2 * (x * p) + p * p := by
      rw [Nat.add_mul, Nat.mul_add, Nat.mul_add, Nat.mul_comm p x]; omega
    have e3 : 2 * x * (c + 1) = 2 * (x * c) + 2 * x := by rw [Nat.mul_add, Nat.mul_one, Nat.mul_assoc]
    rcases Nat.lt_or_ge c (x + p) with hlt | hge2
    · -- x - p < c < x + p is impossible; c ≤ x - p too
      rcases Nat.lt_or_ge x (c + p) with hlt2 | hge3
      · -- |x - c| < p
        have : 2 * (x * c) + 2 * x ≤ x * x + c * c := by omega
        rcases Nat.le_total c x with hcx | hcx
        · obtain ⟨y, rfl⟩ : ∃ y, x = c + y := ⟨x - c, by omega⟩
          have hy : y * y < p * p := by
            have : y < p := by omega
            exact Nat.mul_lt_mul'' this this
          have : (c + y) * (c + y) = c * c + 2 * (c * y) + y * y := by
            rw [Nat.add_mul, Nat.mul_add, Nat.mul_add, Nat.mul_comm y c]; omega
          have : (c + y) * c = c * c + c * y := by rw [Nat.add_mul, Nat.mul_comm y c]
          omega
        · obtain ⟨y, rfl⟩ : ∃ y, c = x + y := ⟨c - x, by omega⟩
          have hy : y * y < p * p := by
            have : y < p := by omega
            exact Nat.mul_lt_mul'' this this
          have : (x + y) * (x + y) = x * x + 2 * (x * y) + y * y := by
            rw [Nat.add_mul, Nat.mul_add, Nat.mul_add, Nat.mul_comm y x]; omega
          have : x * (x + y) = x * x + x * y := by rw [Nat.mul_add]
          omega
      · -- c ≤ x - p, so m ≤ c^2 ≤ (p d)^2
        have hxd : x = p * d + p := by rw [hx, Nat.mul_add, Nat.mul_one]
        have hcd : c ≤ p * d := by omega
        have := Nat.mul_le_mul hcd hcd
        have e4 : p * d * (p * d) = p * p * (d * d) := by
          rw [Nat.mul_assoc, Nat.mul_assoc, ← Nat.mul_assoc d p, Nat.mul_comm d p, Nat.mul_assoc]
        have : 0 < p * p := Nat.mul_pos hpp hpp
        rw [Nat.mul_add, Nat.mul_one] at k1
        omega
    · -- x + p ≤ c
      have : x * (x + p) ≤ x * c := Nat.mul_le_mul_left x hge2
      rw [Nat.mul_add] at this
      omega
  · -- m < (b+1)^2
    have e3 : 2 * x * b + 2 * x = 2 * (x * (b + 1)) := by rw [Nat.mul_add, Nat.mul_one, Nat.mul_add, Nat.mul_assoc]
    rcases Nat.le_total x (b + 1) with hle | hle
    · obtain ⟨y, hy⟩ : ∃ y, b + 1 = x + y := ⟨b + 1 - x, by omega⟩
      rw [hy]
      rw [hy] at e3
      have : (x + y) * (x + y) = x * x + 2 * (x * y) + y * y := by
        rw [Nat.add_mul, Nat.mul_add, Nat.mul_add, Nat.mul_comm y x]; omega
      rw [Nat.mul_add] at e3
      omega
    · obtain ⟨y, hy⟩ : ∃ y, x = (b + 1) + y := ⟨x - (b + 1), by omega⟩
      generalize b + 1 = z at *
      subst hy
      have : (z + y) * (z + y) = z * z + 2 * (z * y) + y * y := by
        rw [Nat.add_mul, Nat.mul_add, Nat.mul_add, Nat.mul_comm y z]; omega
      have : (z + y) * z = z * z + z * y := by rw [Nat.add_mul, Nat.mul_comm y z]
      omega
end Nm
namespace Nm
/-- the relation between two numbers and the rests that some steps of Euclid's algorithm make of them -/
structure Eu (A C p r s t h o : Nat) : Prop where
  e1 : h + r * C = p * A
  e2 : o + s * A = t * C
  e3 : p * t = 1 + r * s

theorem Eu.start (A C : Nat) : Eu A C 1 0 0 1 A C := ⟨by simp, by simp, by simp⟩

theorem Eu.step {A C p r s t h o : Nat} (e : Eu A C p r s t h o) (q rest : Nat) (hq : h = q * o + rest) : Eu C A t s (r + q * t) (p + q * s) o rest := by
  obtain ⟨e1, e2, e3⟩ := e
  refine ⟨e2, ?_, ?_⟩
  · have k := congrArg (q * ·) e2
    simp only [Nat.mul_add] at k
    rw [Nat.add_mul, Nat.add_mul, Nat.mul_assoc, Nat.mul_assoc]
    omega
  · rw [Nat.mul_add, Nat.mul_add, Nat.mul_comm t p, Nat.mul_comm s r, e3, Nat.mul_left_comm t q s, Nat.mul_left_comm s q t, Nat.mul_comm t s]
    omega

/-- and back -/
theorem Eu.back {A C p r s t h o : Nat} (e : Eu A C p r s t h o) : A = t * h + r * o ∧ C = s * h + p * o := by
  obtain ⟨e1, e2, e3⟩ := e
  have a1 : t * h + t * (r * C) = t * (p * A) := by rw [← Nat.mul_add, e1]
  have a2 : r * o + r * (s * A) = r * (t * C) := by rw [← Nat.mul_add, e2]
  have a3 : s * h + s * (r * C) = s * (p * A) := by rw [← Nat.mul_add, e1]
  have a4 : p * o + p * (s * A) = p * (t * C) := by rw [← Nat.mul_add, e2]
  have b1 : t * (p * A) = A + r * (s * A) := by rw [← Nat.mul_assoc, Nat.mul_comm t p, e3, Nat.add_mul, Nat.one_mul, Nat.mul_assoc]
  have b2 : p * (t * C) = C + s * (r * C) := by rw [← Nat.mul_assoc, e3, Nat.add_mul, Nat.one_mul, Nat.mul_comm r s, Nat.mul_assoc]
  have b3 : t * (r * C) = r * (t * C) := Nat.mul_left_comm _ _ _
  have b4 : p * (s * A) = s * (p * A) := Nat.mul_left_comm _ _ _
  omega

/-- the same steps, carried out on numbers that begin with these -/
theorem Eu.lift {A C p r s t h o : Nat} (e : Eu A C p r s t h o) {K a' c' a c M0 M1 : Nat} (ha : a' < K) (hc : c' < K) (ea : a = A * K + a') (ec : c = C * K + c')
    (hr : r ≤ M0) (hs : s ≤ M1) (ht : t ≤ M1) (hM : 1 ≤ M1) (h1 : M1 ≤ o) (h2 : o + M0 + M1 ≤ h) :
    r * c ≤ p * a ∧ s * a ≤ t * c ∧ t * c - s * a < p * a - r * c ∧ Eu a c p r s t (p * a - r * c) (t * c - s * a) := by
  obtain ⟨e1, e2, e3⟩ := e
  have f1 : h * K + r * (C * K) = p * (A * K) := by rw [← Nat.mul_assoc, ← Nat.mul_assoc, ← Nat.add_mul, e1]
  have f2 : o * K + s * (A * K) = t * (C * K) := by rw [← Nat.mul_assoc, ← Nat.mul_assoc, ← Nat.add_mul, e2]
  have g1 : p * a = p * (A * K) + p * a' := by rw [ea, Nat.mul_add]
  have g2 : r * c = r * (C * K) + r * c' := by rw [ec, Nat.mul_add]
  have g3 : s * a = s * (A * K) + s * a' := by rw [ea, Nat.mul_add]
  have g4 : t * c = t * (C * K) + t * c' := by rw [ec, Nat.mul_add]
  have k1 : r * c' ≤ M0 * c' := Nat.mul_le_mul_right _ hr
  have k2 : s * a' ≤ M1 * a' := Nat.mul_le_mul_right _ hs
  have k3 : t * c' ≤ M1 * c' := Nat.mul_le_mul_right _ ht
  have k4 : M1 * a' ≤ M1 * K := Nat.mul_le_mul_left _ (by omega)
  have k5 : M1 * K ≤ o * K := Nat.mul_le_mul_right _ h1
  have k6 : (o + M0 + M1) * K ≤ h * K := Nat.mul_le_mul_right _ h2
  rw [Nat.add_mul, Nat.add_mul] at k6
  have k7 : M0 * c' ≤ M0 * K := Nat.mul_le_mul_left _ (by omega)
  have k8 : M1 * (c' + 1) ≤ M1 * K := Nat.mul_le_mul_left _ (by omega)
  rw [Nat.mul_add, Nat.mul_one] at k8
  have c1 : r * c ≤ p * a := by omega
  have c2 : s * a ≤ t * c := by omega
  exact ⟨c1, c2, by omega, ⟨by omega, by omega, e3⟩⟩

theorem Eu.gcd {A C p r s t h o : Nat} (e : Eu A C p r s t h o) : Nat.gcd h o = Nat.gcd A C := by
  obtain ⟨b1, b2⟩ := e.back
  obtain ⟨e1, e2, e3⟩ := e
  apply Nat.dvd_antisymm
  · apply Nat.dvd_gcd
    · rw [b1]; exact Nat.dvd_add (Nat.dvd_mul_left_of_dvd (Nat.gcd_dvd_left h o) _) (Nat.dvd_mul_left_of_dvd (Nat.gcd_dvd_right h o) _)
    · rw [b2]; exact Nat.dvd_add (Nat.dvd_mul_left_of_dvd (Nat.gcd_dvd_left h o) _) (Nat.dvd_mul_left_of_dvd (Nat.gcd_dvd_right h o) _)
  · apply Nat.dvd_gcd
    · have : Nat.gcd A C ∣ h + r * C := by rw [e1]; exact Nat.dvd_mul_left_of_dvd (Nat.gcd_dvd_left A C) _
      exact (Nat.dvd_add_left (Nat.dvd_mul_left_of_dvd (Nat.gcd_dvd_right A C) _)).1 this
    · have : Nat.gcd A C ∣ o + s * A := by rw [e2]; exact Nat.dvd_mul_left_of_dvd (Nat.gcd_dvd_right A C) _
      exact (Nat.dvd_add_left (Nat.dvd_mul_left_of_dvd (Nat.gcd_dvd_left A C) _)).1 this
end Nm

set_option linter.unusedVariables false
namespace Nm
/-- the estimate q of the quotient of n B + u by y1 B + y0, with the rest r of n by y1 -/
structure Dq (B y1 y0 n u q r : Nat) : Prop where
  e : q * y1 + r = n
  hi : n * B + u < (q + 1) * (y1 * B + y0)

theorem Dq.start {B y1 y0 n u : Nat} (hy : 0 < y1) (hu : u < B) : Dq B y1 y0 n u (n / y1) (n % y1) := by
  refine ⟨by rw [Nat.mul_comm]; exact Nat.div_add_mod n y1, ?_⟩
  have h := Nat.div_add_mod n y1
  have hl := Nat.mod_lt n hy
  have h1 : n + 1 ≤ (n / y1 + 1) * y1 := by rw [Nat.add_mul, Nat.one_mul, Nat.mul_comm]; omega
  have h2 := Nat.mul_le_mul_right B h1
  rw [Nat.add_mul, Nat.one_mul] at h2
  rw [Nat.mul_add, ← Nat.mul_assoc]
  omega

theorem Dq.step {B y1 y0 n u q r : Nat} (h : Dq B y1 y0 n u q r) (hn : n < y1 * B + y0) (hu : u < B) (hc : B ≤ q ∨ B * r + u < q * y0) :
    1 ≤ q ∧ Dq B y1 y0 n u (q - 1) (r + y1) := by
  have hq : 1 ≤ q := by
    rcases Nat.eq_zero_or_pos q with h0 | h0
    · subst h0; rcases hc with hc | hc
      · omega
      · simp at hc
    · exact h0
  obtain ⟨p, rfl⟩ : ∃ p, q = p + 1 := ⟨q - 1, by omega⟩
  refine ⟨hq, ⟨by have := h.e; rw [Nat.add_mul, Nat.one_mul] at this; simp only [Nat.add_sub_cancel]; omega, ?_⟩⟩
  simp only [Nat.add_sub_cancel]
  rcases hc with hc | hc
  · have h1 : (n + 1) * B ≤ (y1 * B + y0) * B := Nat.mul_le_mul_right B hn
    have h2 : (y1 * B + y0) * B ≤ (y1 * B + y0) * (p + 1) := Nat.mul_le_mul_left _ hc
    rw [Nat.add_mul, Nat.one_mul] at h1
    rw [Nat.mul_comm (p + 1)]
    omega
  · have := h.e
    have e2 : n * B = (p + 1) * y1 * B + r * B := by rw [← this, Nat.add_mul]
    rw [Nat.mul_add, ← Nat.mul_assoc, Nat.mul_comm r B] at *
    omega

theorem Dq.done {B y1 y0 n u q r : Nat} (h : Dq B y1 y0 n u q r) (hc : q * y0 ≤ B * r + u) : q = (n * B + u) / (y1 * B + y0) := by
  have e2 : n * B = q * y1 * B + r * B := by rw [← h.e, Nat.add_mul]
  have hi := h.hi
  have lo : q * (y1 * B + y0) ≤ n * B + u := by
    rw [Nat.mul_add, ← Nat.mul_assoc]; rw [Nat.mul_comm r B] at e2; omega
  symm
  rw [Nat.div_eq_iff (by
    rcases Nat.eq_zero_or_pos (y1 * B + y0) with h0 | h0
    · rw [h0] at hi; omega
    · exact h0)]
  refine ⟨lo, ?_⟩
  rw [Nat.add_mul, Nat.one_mul] at hi; omega

theorem Dq.done2 {B y1 y0 n u q r : Nat} (h : Dq B y1 y0 n u q r) (hn : n < y1 * B + y0) (hy0 : y0 < B) (hr : B ≤ r) : q < B ∧ q = (n * B + u) / (y1 * B + y0) := by
  have he := h.e
  have hq : q < B := by
    refine Nat.lt_of_not_le fun hge => ?_
    have := Nat.mul_le_mul_right y1 hge
    rw [Nat.mul_comm B y1] at this
    omega
  refine ⟨hq, h.done ?_⟩
  have h1 : q * y0 ≤ B * B := Nat.mul_le_mul (by omega) (by omega)
  have h2 : B * B ≤ B * r := Nat.mul_le_mul_left _ hr
  omega

/-- two digits of a quotient, one after the other -/
theorem div_two {B n u1 u0 y : Nat} (hy : 0 < y) :
    ((n * B + u1) / y * B + ((n * B + u1) % y * B + u0) / y = (n * B * B + u1 * B + u0) / y) ∧ ((n * B + u1) % y * B + u0) % y = (n * B * B + u1 * B + u0) % y := by
  have h1 := Nat.div_add_mod (n * B + u1) y
  generalize (n * B + u1) / y = q1 at *
  generalize (n * B + u1) % y = r1 at *
  have h2 := Nat.div_add_mod (r1 * B + u0) y
  have hl := Nat.mod_lt (r1 * B + u0) hy
  generalize (r1 * B + u0) / y = q0 at *
  generalize (r1 * B + u0) % y = r0 at *
  have e : n * B * B + u1 * B + u0 = y * (q1 * B + q0) + r0 := by
    rw [← Nat.add_mul, ← h1, Nat.add_mul, Nat.mul_add, Nat.mul_assoc]; omega
  rw [e]
  constructor
  · rw [Nat.mul_add_div hy, Nat.div_eq_of_lt hl]; rfl
  · rw [Nat.mul_add_mod, Nat.mod_eq_of_lt hl]

/-- quotients of shifted numbers -/
theorem div_shift (N y s : Nat) (hs : 0 < s) : N * s / (y * s) = N / y ∧ N * s % (y * s) / s = N % y := by
  refine ⟨Nat.mul_div_mul_right _ _ hs, ?_⟩
  rw [Nat.mul_mod_mul_right, Nat.mul_div_cancel _ hs]
end Nm
namespace Nm
theorem shift_two {W S T hi lo : Nat} (hST : S * T = W) (hS : 0 < S) : (hi * S + lo / T) * W + lo * S % W = (hi * W + lo) * S := by
  have e1 : lo / T = lo * S / W := by
    rw [← hST, Nat.mul_comm S T]
    exact (Nat.mul_div_mul_right lo T hS).symm
  rw [e1]
  have := Nat.div_add_mod (lo * S) W
  rw [Nat.add_mul, Nat.add_mul, Nat.mul_right_comm hi S W, Nat.mul_comm (lo * S / W) W]
  omega
theorem shift_lt {S T hi lo y W : Nat} (hST : S * T = W) (hT : 0 < T) (hlo : lo < W) (hy : hi < y) : hi * S + lo / T < y * S := by
  have h1 : lo / T < S := Nat.div_lt_of_lt_mul (by rw [Nat.mul_comm, hST]; exact hlo)
  have h2 : (hi + 1) * S ≤ y * S := Nat.mul_le_mul_right _ hy
  rw [Nat.add_mul, Nat.one_mul] at h2
  omega
/-- the steps of the division of two words by one word: all of them together -/
theorem div_words {B W S T hi lo y un1 un0 q1 q0 : Nat} (hW : W = B * B) (hST : S * T = W) (hS : 0 < S) (hT : 0 < T) (hlo : lo < W) (hy : hi < y)
    (h1 : lo * S % W = un1 * B + un0)
    (e1 : q1 = ((hi * S + lo / T) * B + un1) / (y * S)) (e0 : q0 = (((hi * S + lo / T) * B + un1) % (y * S) * B + un0) / (y * S)) :
    q1 * B + q0 = (hi * W + lo) / y ∧ (((hi * S + lo / T) * B + un1) % (y * S) * B + un0) % (y * S) / S = (hi * W + lo) % y := by
  have hyS : 0 < y * S := Nat.mul_pos (by omega) hS
  have hd := div_two (B := B) (n := hi * S + lo / T) (u1 := un1) (u0 := un0) hyS
  have hs := shift_two (hi := hi) (lo := lo) hST hS
  have e : (hi * S + lo / T) * B * B + un1 * B + un0 = (hi * W + lo) * S := by
    rw [← hs, h1, hW, Nat.mul_assoc]; omega
  rw [e] at hd
  have hz := div_shift (hi * W + lo) y S hS
  rw [hz.1] at hd
  rw [e1, e0, hd.2]
  exact ⟨hd.1, hz.2⟩
end Nm
namespace Nm
/-- the digit was right: nothing is left to subtract -/
theorem digit_right {N v r d top bor p : Nat} (e : p + d * v + N * top = r + N * bor) (hle : bor ≤ top) (hlt : r < (d + 1) * v) (hv : v ≤ N) : p + d * v = r ∧ p < v := by
  obtain ⟨t, rfl⟩ : ∃ t, top = bor + t := ⟨top - bor, by omega⟩
  rw [Nat.add_mul, Nat.one_mul] at hlt
  rw [Nat.mul_add] at e
  rcases Nat.eq_zero_or_pos t with h0 | h0
  · subst h0; simp at e; omega
  · have : N * 1 ≤ N * t := Nat.mul_le_mul_left _ h0
    omega
/-- the digit was one too great: the divisor is added again -/
theorem digit_less {N v r d top bor p p2 c : Nat} (e : p + d * v + N * top = r + N * bor) (hlt : top < bor) (hp : p < N) (hd : d * v < r + v) (e2 : p2 + N * c = p + v) (hp2 : p2 < N) (hv : v ≤ N) :
    1 ≤ d ∧ p2 + (d - 1) * v = r ∧ p2 < v := by
  obtain ⟨t, rfl⟩ : ∃ t, bor = top + 1 + t := ⟨bor - top - 1, by omega⟩
  rw [Nat.mul_add, Nat.mul_add, Nat.mul_one] at e
  have hN : N * t = 0 ∨ N ≤ N * t := by
    rcases Nat.eq_zero_or_pos t with h0 | h0
    · left; rw [h0, Nat.mul_zero]
    · right; have := Nat.mul_le_mul_left N h0; omega
  have hd1 : 1 ≤ d := by
    rcases Nat.eq_zero_or_pos d with h0 | h0
    · subst h0; simp at e; omega
    · exact h0
  obtain ⟨f, rfl⟩ : ∃ f, d = f + 1 := ⟨d - 1, by omega⟩
  rw [Nat.add_mul, Nat.one_mul] at e hd
  simp only [Nat.add_sub_cancel]
  have hc : c = 0 ∨ c = 1 ∨ 2 ≤ c := by omega
  refine ⟨hd1, ?_⟩
  rcases hc with rfl | rfl | hc
  · simp at e2; omega
  · simp at e2; omega
  · have := Nat.mul_le_mul_left N hc; omega
end Nm
namespace Nm
theorem digit_est {W first second N2 v Vlow r Rlow high mid low d : Nat} (hf : W ≤ 2 * first) (hW : 2 ≤ W) (hv : v = (first * W + second) * N2 + Vlow) (hV : Vlow < N2)
    (hr : r = (high * W * W + mid * W + low) * N2 + Rlow) (hR : Rlow < N2) (hs : second < W) (hmid : mid < W) (hlow : low < W) (hlt : r < W * v)
    (hd : d = if first ≤ high then W - 1 else (high * W * W + mid * W + low) / (first * W + second)) : d < W ∧ r < (d + 1) * v ∧ d * v < r + v := by
  have hfW : 0 < first * W := Nat.mul_pos (by omega) (by omega)
  by_cases h : first ≤ high
  · rw [if_pos h] at hd
    subst hd
    refine ⟨by omega, ?_⟩
    have sN : second * N2 + N2 ≤ W * N2 := by
      have := Nat.mul_le_mul_right N2 (show second + 1 ≤ W from hs)
      rwa [Nat.add_mul, Nat.one_mul] at this
    have lN : low * N2 + N2 ≤ W * N2 := by
      have := Nat.mul_le_mul_right N2 (show low + 1 ≤ W from hlow)
      rwa [Nat.add_mul, Nat.one_mul] at this
    refine est_top W first (W * N2) r v high mid (second * N2 + Vlow) (low * N2 + Rlow) hf hW ?_ (by omega) ?_ h hlt
    · rw [hv, Nat.add_mul, Nat.mul_assoc]; omega
    · rw [hr, Nat.add_mul, Nat.add_mul]
      have e1 : high * W * W * N2 = high * (W * N2 * W) := by rw [Nat.mul_assoc, Nat.mul_assoc, Nat.mul_right_comm W N2 W, ← Nat.mul_assoc W W N2]
      have e2 : mid * W * N2 = mid * (W * N2) := Nat.mul_assoc _ _ _
      rw [e1, e2]; omega
  · rw [if_neg h] at hd
    have hD : 0 < first * W + second := by omega
    have a1 := Nat.div_add_mod (high * W * W + mid * W + low) (first * W + second)
    have a2 := Nat.mod_lt (high * W * W + mid * W + low) hD
    rw [← hd] at a1
    generalize (high * W * W + mid * W + low) % (first * W + second) = z at *
    rw [Nat.mul_comm] at a1
    have h1 : d * (first * W + second) ≤ high * W * W + mid * W + low := by omega
    have h2 : high * W * W + mid * W + low < (d + 1) * (first * W + second) := by rw [Nat.add_mul, Nat.one_mul]; omega
    have hdW : d < W := by
      refine Nat.lt_of_not_le fun hge => ?_
      have b1 : W * (first * W + second) ≤ d * (first * W + second) := Nat.mul_le_mul_right _ hge
      have b2 : (high + 1) * W * W ≤ first * W * W := Nat.mul_le_mul_right _ (Nat.mul_le_mul_right _ (by omega))
      have b3 : (mid + 1) * W ≤ W * W := Nat.mul_le_mul_right _ hmid
      rw [Nat.add_mul, Nat.add_mul, Nat.one_mul] at b2
      rw [Nat.add_mul, Nat.one_mul] at b3
      rw [Nat.mul_add, Nat.mul_comm W (first * W)] at b1
      omega
    exact ⟨hdW, est W first second high mid low N2 r v d Vlow Rlow hf hdW hv hV hr hR h1 h2⟩

/-- the highest three words of what is left -/
theorem three_words {W : Nat} (hW : 1 < W) (cur : List Nat) (hc : Dg W cur) (i m : Nat) (hi : i + m + 2 < cur.length) (v : Nat) (hv : v ≤ W ^ (m + 2)) (hlt : V W (cur.drop (i + 1)) < v)
    (hi0 : i + m + 2 < cur.length) :
    ∃ Rlow, Rlow < W ^ m ∧ V W (cur.drop i) = (cur[i + m + 2] * W * W + cur[i + m + 1] * W + cur[i + m]) * W ^ m + Rlow ∧ V W (cur.drop i) < W * v := by
  have hd := hc.drop i
  have e0 := V_drop_succ (B := W) cur i (by omega)
  have hx := hc.get i (by omega)
  have hr : V W (cur.drop i) < W * v := by
    rw [e0]
    have := Nat.mul_le_mul_left W (show V W (cur.drop (i + 1)) + 1 ≤ v from hlt)
    rw [Nat.mul_add, Nat.mul_one] at this
    omega
  have g0 : cur[i + m] = V W (cur.drop i) / W ^ m % W := by
    rw [← dig_get (cur.drop i) hd m (by simp; omega)]; simp
  have g1 : cur[i + m + 1] = V W (cur.drop i) / W ^ (m + 1) % W := by
    rw [← dig_get (cur.drop i) hd (m + 1) (by simp; omega)]; simp [Nat.add_assoc]
  have g2 : cur[i + m + 2] = V W (cur.drop i) / W ^ (m + 2) % W := by
    rw [← dig_get (cur.drop i) hd (m + 2) (by simp; omega)]; simp [Nat.add_assoc]
  generalize V W (cur.drop i) = r at *
  refine ⟨r % W ^ m, Nat.mod_lt _ (Nat.pow_pos (by omega)), ?_, hr⟩
  have p1 : W ^ (m + 1) = W ^ m * W := Nat.pow_succ ..
  have p2 : W ^ (m + 2) = W ^ m * (W * W) := by rw [Nat.pow_succ, Nat.pow_succ, Nat.mul_assoc]
  have hb : r / W ^ m < W * (W * W) := by
    refine Nat.div_lt_of_lt_mul (Nat.lt_of_lt_of_le hr ?_)
    rw [Nat.mul_left_comm]; exact Nat.mul_le_mul_left W (p2 ▸ hv)
  rw [p1, ← Nat.div_div_eq_div_mul] at g1
  rw [p2, ← Nat.div_div_eq_div_mul] at g2
  have hq := Nat.div_add_mod r (W ^ m)
  rw [g0, g1, g2]
  generalize r / W ^ m = q at *
  have c1 : q / (W * W) % W = q / (W * W) := Nat.mod_eq_of_lt (Nat.div_lt_of_lt_mul (by rw [Nat.mul_comm]; exact hb))
  have c2 := Nat.div_add_mod q W
  have c3 := Nat.div_add_mod (q / W) W
  rw [Nat.div_div_eq_div_mul] at c3
  have e : q / (W * W) % W * W * W + q / W % W * W + q % W = q := by
    rw [c1, ← Nat.add_mul, Nat.mul_comm (q / (W * W)) W, c3, Nat.mul_comm (q / W) W, c2]
  rw [e, Nat.mul_comm q]; omega
end Nm
namespace Nm
/-- the parts of a word that is shifted up by s -/
theorem shl_parts {W S T x : Nat} (hST : S * T = W) (hS : 0 < S) : x * S % W + W * (x / T) = x * S := by
  have e1 : x / T = x * S / W := by
    rw [← hST, Nat.mul_comm S T]; exact (Nat.mul_div_mul_right x T hS).symm
  rw [e1]; exact Nat.mod_add_div _ _

theorem shl_low {W S T x : Nat} (hST : S * T = W) : x * S % W = x % T * S := by
  rw [← hST, Nat.mul_comm S T, Nat.mul_mod_mul_right]

/-- one step of a shift up -/
theorem up_step {W S T : Nat} (hW : 1 < W) (hST : S * T = W) (hS : 0 < S) (hT : 0 < T) (cu : List Nat) (k x v : Nat) (hk : k + 1 < cu.length) (hx : x < W) (h0 : cu[k + 1] = 0) (hv : V W cu = v * S) :
    V W ((cu.set k (cu[k] + x * S % W)).set (k + 1) (x / T)) = (v + W ^ k * x) * S ∧ x / T < S := by
  refine ⟨?_, Nat.div_lt_of_lt_mul (by rw [Nat.mul_comm, hST]; exact hx)⟩
  have h1 := V_set (B := W) cu k (cu[k] + x * S % W) (by omega)
  have hl : (k + 1) < (cu.set k (cu[k] + x * S % W)).length := by simpa using hk
  have h2 := V_set (B := W) (cu.set k (cu[k] + x * S % W)) (k + 1) (x / T) hl
  have e0 : (cu.set k (cu[k] + x * S % W))[k + 1] = 0 := by
    rw [List.getElem_set_ne (by omega)]; exact h0
  rw [e0, Nat.mul_zero, Nat.add_zero] at h2
  have h3 := shl_parts (x := x) hST hS
  have h4 := congrArg (W ^ k * ·) h3
  simp only [Nat.mul_add] at h4
  rw [Nat.mul_add] at h1
  rw [h2, Nat.add_mul, Nat.pow_succ]
  rw [← Nat.mul_assoc] at h4
  rw [hv] at h1
  rw [Nat.mul_assoc (W ^ k) x S]
  omega
end Nm
namespace Nm
/-- one step of a shift down -/
theorem down_step {W S T : Nat} (hW : 1 < W) (hST : S * T = W) (hS : 0 < S) (hT : 0 < T) (cu : List Nat) (k x v : Nat) (hk : k + 1 < cu.length) (hx : x < W) (h0 : cu[k + 1] = 0) (hv : V W cu = v / S) :
    V W ((cu.set (k + 1) (x / S)).set k (cu[k] + x * T % W)) = (v + W ^ (k + 1) * x) / S ∧ x / S < T := by
  refine ⟨?_, Nat.div_lt_of_lt_mul (by rw [hST]; exact hx)⟩
  have h1 := V_set (B := W) cu (k + 1) (x / S) hk
  have hl : k < (cu.set (k + 1) (x / S)).length := by simp; omega
  have h2 := V_set (B := W) (cu.set (k + 1) (x / S)) k (cu[k] + x * T % W) hl
  have e0 : (cu.set (k + 1) (x / S))[k] = cu[k] := by
    rw [List.getElem_set_ne (by omega)]
  rw [e0, Nat.mul_add] at h2
  rw [h0, Nat.mul_zero, Nat.add_zero] at h1
  have h3 := shl_parts (x := x) (S := T) (T := S) (W := W) (by rw [Nat.mul_comm]; exact hST) hT
  have h4 := congrArg (W ^ k * ·) h3
  simp only [Nat.mul_add] at h4
  have e5 : (v + W ^ (k + 1) * x) / S = v / S + W ^ k * (x * T) := by
    have : W ^ (k + 1) * x = S * (W ^ k * (x * T)) := by
      have e6 : W * x = S * (x * T) := by rw [← hST, Nat.mul_assoc, Nat.mul_comm T x]
      rw [Nat.pow_succ, Nat.mul_assoc, e6, Nat.mul_left_comm]
    rw [this, Nat.add_mul_div_left _ _ hS]
  rw [e5, ← hv]
  rw [Nat.pow_succ, Nat.mul_assoc] at h1
  omega
theorem down_first {W S : Nat} (cu : List Nat) (x : Nat) (hk : 0 < cu.length) (h0 : cu[0] = 0) (hv : V W cu = 0) : V W (cu.set 0 (x / S)) = x / S := by
  have h1 := V_set (B := W) cu 0 (x / S) hk
  rw [h0, hv] at h1; simpa using h1
end Nm
namespace Nm
/-- the state of the division by hand, when k digits are still to come -/
structure KInv (W n Lq v U k : Nat) (cu cq : List Nat) : Prop where
  lu : cu.length = n + 1
  du : Dg W cu
  lq : cq.length = Lq
  dq : Dg W cq
  zq : ∀ j, j < k → cq[j]? = some 0
  eq : V W cu + v * V W cq = U
  lt : V W (cu.drop k) < v

theorem same_parts {cu cu1 : List Nat} {i m : Nat} (h : ∀ j, j < i ∨ i + m ≤ j → cu1[j]? = cu[j]?) : cu1.take i = cu.take i ∧ cu1.drop (i + m) = cu.drop (i + m) := by
  constructor
  · apply List.ext_getElem?
    intro j
    rw [List.getElem?_take, List.getElem?_take]
    by_cases hj : j < i
    · rw [if_pos hj, if_pos hj]; exact h j (.inl hj)
    · rw [if_neg hj, if_neg hj]
  · apply List.ext_getElem?
    intro j
    rw [List.getElem?_drop, List.getElem?_drop]
    exact h _ (.inr (by omega))

theorem drop_level {W : Nat} (hW : 0 < W) {cu cu1 : List Nat} {i m A b : Nat} (hi : i ≤ cu.length) (hl : cu1.length = cu.length) (ht : cu1.take i = cu.take i) (e : V W cu1 + W ^ i * A = V W cu + W ^ (i + m) * b) :
    V W (cu1.drop i) + A = V W (cu.drop i) + W ^ m * b := by
  have h1 := V_take_drop (B := W) cu i hi
  have h2 := V_take_drop (B := W) cu1 i (by omega)
  rw [ht] at h2
  have hp : 0 < W ^ i := Nat.pow_pos hW
  apply Nat.eq_of_mul_eq_mul_left hp
  rw [Nat.mul_add, Nat.mul_add, ← Nat.mul_assoc, ← Nat.pow_add]
  omega

theorem V_zero_of {W : Nat} {xs : List Nat} {i m v : Nat} (hW : 0 < W) (hi : i + m ≤ xs.length) (hlt : V W (xs.drop i) < v) (hv : v ≤ W ^ m) : V W (xs.drop (i + m)) = 0 := by
  have h := V_take_drop (B := W) (xs.drop i) m (by simp; omega)
  rw [List.drop_drop] at h
  rcases Nat.eq_zero_or_pos (V W (xs.drop (i + m))) with h0 | h0
  · exact h0
  · have := Nat.mul_le_mul_left (W ^ m) h0
    omega

/-- what is left behind the subtraction, on the level of place i -/
theorem knuth_sub {W n Lq v U i m A bor : Nat} {cu cq cu1 : List Nat} (hW : 1 < W) (h : KInv W n Lq v U (i + 1) cu cq) (hv : v ≤ W ^ m) (him : i + m ≤ n) (hl : cu1.length = cu.length) (hd : Dg W cu1)
    (e : V W cu1 + W ^ i * A = V W cu + W ^ (i + m) * bor) (hs : ∀ j, j < i ∨ i + m ≤ j → cu1[j]? = cu[j]?) (him2 : i + m < cu.length) :
    V W ((cu1.drop i).take m) + A + W ^ m * cu[i + m] = V W (cu.drop i) + W ^ m * bor ∧ V W ((cu1.drop i).take m) < W ^ m := by
  have hlu := h.lu
  obtain ⟨h1, h2⟩ := same_parts hs
  have h3 := drop_level (by omega) (by omega) hl h1 e
  have h4 := V_take_drop (B := W) (cu1.drop i) m (by simp; omega)
  rw [List.drop_drop, h2] at h4
  have h5 := V_drop_succ (B := W) cu (i + m) him2
  have h6 := V_zero_of (xs := cu) (i := i + 1) (m := m) (by omega) (by omega) h.lt hv
  rw [show i + 1 + m = i + m + 1 by omega] at h6
  rw [h6, Nat.mul_zero, Nat.add_zero] at h5
  rw [h5] at h4
  have h7 := ((hd.drop i).take m).lt
  have h8 : W ^ ((cu1.drop i).take m).length ≤ W ^ m := Nat.pow_le_pow_right (by omega) (List.length_take_le _ _)
  exact ⟨by omega, by omega⟩

/-- the highest word is set to 0 -/
theorem clear_top {W n Lq v U i m : Nat} {cu cq cu1 : List Nat} (hW : 1 < W) (h : KInv W n Lq v U (i + 1) cu cq) (hv : v ≤ W ^ m) (him : i + m ≤ n) (hl : cu1.length = cu.length)
    (hs : ∀ j, j < i ∨ i + m ≤ j → cu1[j]? = cu[j]?) :
    V W ((cu1.set (i + m) 0).drop i) = V W ((cu1.drop i).take m) ∧ (cu1.set (i + m) 0).take i = cu.take i := by
  have hlu := h.lu
  obtain ⟨h1, h2⟩ := same_parts hs
  have him1 : i + m < cu1.length := by omega
  have h4 := V_take_drop (B := W) ((cu1.set (i + m) 0).drop i) m (by simp; omega)
  rw [List.drop_drop] at h4
  have e1 : ((cu1.set (i + m) 0).drop i).take m = (cu1.drop i).take m := by
    apply List.ext_getElem?
    intro j
    rw [List.getElem?_take, List.getElem?_take]
    by_cases hj : j < m
    · rw [if_pos hj, if_pos hj, List.getElem?_drop, List.getElem?_drop, List.getElem?_set_ne (by omega)]
    · rw [if_neg hj, if_neg hj]
  have e2 : V W ((cu1.set (i + m) 0).drop (i + m)) = 0 := by
    have h5 := V_drop_succ (B := W) (cu1.set (i + m) 0) (i + m) (by simpa using him1)
    have h6 : (cu1.set (i + m) 0).drop (i + m + 1) = cu.drop (i + m + 1) := by
      apply List.ext_getElem?
      intro j
      rw [List.getElem?_drop, List.getElem?_drop, List.getElem?_set_ne (by omega)]
      exact hs _ (.inr (by omega))
    have h7 := V_zero_of (xs := cu) (i := i + 1) (m := m) (by omega) (by omega) h.lt hv
    rw [show i + 1 + m = i + m + 1 by omega] at h7
    rw [h6, h7] at h5
    rw [h5]; simp
  rw [e1, e2, Nat.mul_zero, Nat.add_zero] at h4
  refine ⟨h4, ?_⟩
  apply List.ext_getElem?
  intro j
  rw [List.getElem?_take, List.getElem?_take]
  by_cases hj : j < i
  · rw [if_pos hj, if_pos hj, List.getElem?_set_ne (by omega)]; exact hs j (.inl hj)
  · rw [if_neg hj, if_neg hj]

/-- a digit more -/
theorem KInv.next {W n Lq v U i d : Nat} {cu cq cu2 : List Nat} (hW : 0 < W) (h : KInv W n Lq v U (i + 1) cu cq) (hi : i < n) (hiq : i < Lq) (hl : cu2.length = cu.length) (hd2 : Dg W cu2) (ht : cu2.take i = cu.take i)
    (hd : d < W) (e : V W (cu2.drop i) + d * v = V W (cu.drop i)) (hlt : V W (cu2.drop i) < v) : KInv W n Lq v U i cu2 (cq.set i d) := by
  have hlu := h.lu
  have hlq := h.lq
  refine ⟨by omega, hd2, by simpa using hlq, h.dq.set _ _ hd, fun j hj => ?_, ?_, hlt⟩
  · rw [List.getElem?_set_ne (by omega)]; exact h.zq j (by omega)
  · have h1 := V_take_drop (B := W) cu i (by omega)
    have h2 := V_take_drop (B := W) cu2 i (by omega)
    rw [ht] at h2
    have h3 := V_set (B := W) cq i d (by omega)
    have h0 : cq[i]'(by omega) = 0 := by
      have := h.zq i (by omega)
      rw [List.getElem?_eq_getElem (by omega)] at this
      simpa using this
    rw [h0, Nat.mul_zero, Nat.add_zero] at h3
    rw [← h.eq, h3, h1, h2, ← e, Nat.mul_add, Nat.mul_add]
    have : v * (W ^ i * d) = W ^ i * (d * v) := by rw [Nat.mul_left_comm, Nat.mul_comm v d]
    omega

/-- the end: the quotient and the rest -/
theorem KInv.done {W n Lq v U : Nat} {cu cq : List Nat} (h : KInv W n Lq v U 0 cu cq) : V W cq = U / v ∧ V W cu = U % v := by
  have h1 := h.lt
  rw [List.drop_zero] at h1
  have h2 := h.eq
  rw [Nat.add_comm] at h2
  constructor
  · rw [← h2, Nat.mul_add_div (by omega), Nat.div_eq_of_lt h1, Nat.add_zero]
  · rw [← h2, Nat.mul_add_mod, Nat.mod_eq_of_lt h1]

/-- the beginning -/
theorem KInv.start {W n m v U S : Nat} {cu : List Nat} (hW : 1 < W) (hm : 1 ≤ m) (hmn : m ≤ n) (lu : cu.length = n + 1) (du : Dg W cu) (eu : V W cu = U * S) (hU : U < W ^ n) (hv : W ^ (m - 1) * S ≤ v) (hS : 0 < S) :
    KInv W n (n + 1 - m) v (U * S) (n + 1 - m) cu (List.replicate (n + 1 - m) 0) := by
  refine ⟨lu, du, by simp, Dg.zeros (by omega) _, fun j hj => by simp [hj], by rw [V_zeros, eu]; simp, ?_⟩
  rw [V_drop_eq cu du _ (by omega), eu]
  refine Nat.div_lt_of_lt_mul ?_
  have h1 : U * S < W ^ n * S := Nat.mul_lt_mul_of_pos_right hU hS
  have h2 : W ^ (n + 1 - m) * (W ^ (m - 1) * S) ≤ W ^ (n + 1 - m) * v := Nat.mul_le_mul_left _ hv
  rw [← Nat.mul_assoc, ← Nat.pow_add, show n + 1 - m + (m - 1) = n by omega] at h2
  omega

/-- the two highest words of the divisor -/
theorem two_top {W : Nat} (hW : 1 < W) (vs : List Nat) (hd : Dg W vs) (m : Nat) (hl : vs.length = m + 2) : ∃ Vlow, Vlow < W ^ m ∧ V W vs = (vs[m + 1] * W + vs[m]) * W ^ m + Vlow := by
  have h1 := V_take_drop (B := W) vs m (by omega)
  have h2 := V_drop_succ (B := W) vs m (by omega)
  have h3 := V_drop_succ (B := W) vs (m + 1) (by omega)
  rw [show vs.drop (m + 1 + 1) = [] from List.drop_of_length_le (by omega)] at h3
  rw [h3] at h2
  rw [h2] at h1
  refine ⟨V W (vs.take m), ?_, ?_⟩
  · have := (hd.take m).lt
    rw [List.length_take, Nat.min_eq_left (by omega)] at this
    exact this
  · rw [h1, Nat.mul_comm (W ^ m)]; simp
    rw [Nat.mul_comm W, Nat.add_comm vs[m], Nat.add_comm]
end Nm
namespace Nm
/-- the divisor, shifted up so that its highest bit is set -/
theorem norm_top {W S T : Nat} (hW : 1 < W) (hST : S * T = W) (vs zs : List Nat) (hv : Dg W vs) (hz : Dg W zs) (m t : Nat) (lv : vs.length = m + 2) (lz : zs.length = m + 2 + 1) (ht : t = vs[m + 1])
    (e : V W zs = V W vs * S) (h1 : W ≤ 2 * (t * S)) (h2 : t * S < W) (hS : 0 < S) :
    V W zs < W ^ (m + 2) ∧ W ≤ 2 * zs[m + 1] ∧ V W (zs.take (m + 2)) = V W zs ∧ W ^ (m + 1) * S ≤ V W zs := by
  have a1 := V_take_drop (B := W) vs (m + 1) (by omega)
  have a2 := V_drop_succ (B := W) vs (m + 1) (by omega)
  rw [show vs.drop (m + 1 + 1) = [] from List.drop_of_length_le (by omega), ← ht] at a2
  simp only [V_nil, Nat.mul_zero, Nat.add_zero] at a2
  rw [a2] at a1
  have a3 := (hv.take (m + 1)).lt
  rw [List.length_take, Nat.min_eq_left (by omega)] at a3
  generalize V W (vs.take (m + 1)) = lo at *
  have hp : 0 < W ^ (m + 1) := Nat.pow_pos (by omega)
  have hT : t < T := by
    refine Nat.lt_of_not_le fun hge => ?_
    have := Nat.mul_le_mul_left S hge
    rw [hST, Nat.mul_comm] at this; omega
  have b1 : (t + 1) * S ≤ W := by rw [← hST, Nat.mul_comm S]; exact Nat.mul_le_mul_right _ hT
  have b2 : (lo + 1) * S ≤ W ^ (m + 1) * S := Nat.mul_le_mul_right _ a3
  have b3 : W ^ (m + 1) * ((t + 1) * S) ≤ W ^ (m + 1) * W := Nat.mul_le_mul_left _ b1
  have c0 : V W zs = lo * S + W ^ (m + 1) * (t * S) := by rw [e, a1, Nat.add_mul, Nat.mul_assoc]
  rw [Nat.add_mul, Nat.one_mul] at b2
  rw [Nat.add_mul, Nat.one_mul, Nat.mul_add] at b3
  have p2 : W ^ (m + 2) = W ^ (m + 1) * W := Nat.pow_succ ..
  have lt : V W zs < W ^ (m + 2) := by rw [p2]; omega
  have d1 := V_take_drop (B := W) zs (m + 2) (by omega)
  have d0 : V W (zs.drop (m + 2)) = 0 := by rw [V_drop_eq zs hz _ (by omega)]; exact Nat.div_eq_of_lt lt
  rw [d0, Nat.mul_zero, Nat.add_zero] at d1
  refine ⟨lt, ?_, d1.symm, ?_⟩
  · rw [dig_get zs hz (m + 1) (by omega), c0, Nat.add_mul_div_left _ _ hp]
    have f1 : lo * S / W ^ (m + 1) + t * S < W := by
      rw [← Nat.add_mul_div_left _ _ hp, ← c0]
      refine Nat.div_lt_of_lt_mul ?_
      rw [← p2]; exact lt
    rw [Nat.mod_eq_of_lt f1]
    generalize lo * S / W ^ (m + 1) = q at *
    omega
  · have t1 : 1 ≤ t := by
      rcases Nat.eq_zero_or_pos t with h0 | h0
      · subst h0; simp at h1; omega
      · exact h0
    have : W ^ (m + 1) * (1 * S) ≤ W ^ (m + 1) * (t * S) := Nat.mul_le_mul_left _ (Nat.mul_le_mul_right _ t1)
    rw [Nat.one_mul] at this; omega
end Nm

set_option linter.unusedVariables false
set_option linter.unusedSimpArgs false
namespace Go.Proofs.YthkgldpcgmnaiaaDoor
open Go.RowKit Nm

/-- s is the distance by which x must be shifted so that its highest bit is set -/
def IsLz (x s : Nat) : Prop := s ≤ 63 ∧ 9223372036854775808 ≤ x * 2 ^ s ∧ x * 2 ^ s < 18446744073709551616
theorem isLz_of (x l : Nat) (h : 1 ≤ l ∧ 2 ^ (l - 1) ≤ x ∧ x < 2 ^ l) (hl : l ≤ 64) : IsLz x (64 - l) := by
  obtain ⟨h1, h2, h3⟩ := h
  have p : 0 < 2 ^ (64 - l) := Nat.pow_pos (by omega)
  refine ⟨by omega, ?_, ?_⟩
  · have := Nat.mul_le_mul_right (2 ^ (64 - l)) h2
    rw [← Nat.pow_add, show l - 1 + (64 - l) = 63 by omega] at this
    exact this
  · have := Nat.mul_lt_mul_of_pos_right h3 p
    rw [← Nat.pow_add, show l + (64 - l) = 64 by omega] at this
    exact this

theorem lz_any (x : Nat) (h0 : 0 < x) (hx : x < W64) (w : World) :
    Calls Tryd.prog 81 #[.int .u64 x] w fun e w' => ∃ s : Nat, s ≤ 63 ∧ e = .returned (.int .i64 s) ∧ Hid (IsLz x s) ∧ w = w' := by
  have hb := bitLen_spec x hx
  have hb' : 1 ≤ Lib.bitLen x ∧ 2 ^ (Lib.bitLen x - 1) ≤ x ∧ x < 2 ^ Lib.bitLen x := by
    rcases hb with ⟨h, _⟩ | h
    · omega
    · exact h
  have HB := hid hb'
  clear hb hb'
  go_enter Tryd.func81, Tryd.ntmps81
  go_wp2_with (go_at_call 41; refine (len64_any x hx _).mono ?_; rintro e w' ⟨l, hl, HL, rfl, rfl⟩)
  go_ret
  have hz := HB.out
  rw [← HL.out] at hz
  have h1 := isLz_of x l hz hl
  exact ⟨64 - l, h1.1, ret_eq (congrArg (Value.int IntKind.i64) (by omega)), hid h1, rfl⟩

theorem two_pow_cut (s : Nat) (hs : s ≤ 63) : 2 ^ s * 2 ^ (64 - s) = W64 := by rw [← Nat.pow_add, show s + (64 - s) = 64 by omega]; decide
theorem Dq_qlt {B y1 y0 n u q r : Nat} (h : Dq B y1 y0 n u q r) (hy : 0 < y1) : q ≤ n := by
  have := h.e
  have := Nat.le_mul_of_pos_right q hy
  omega
theorem tuple2_eq {a b c d : Value} (h : a = b) (k : c = d) : Value.tuple #[a, c] = Value.tuple #[b, d] := by rw [h, k]
theorem bits64 : 2 ^ IntKind.u64.bits = 18446744073709551616 := by decide
theorem wrap_shl (n : Nat) : IntKind.u64.wrap (n : Int) = ((n % 2 ^ IntKind.u64.bits : Nat) : Int) := by rw [bits64]; exact wrap_mod n

set_option maxHeartbeats 1000000 in
theorem div64_any (hi lo y : Nat) (hlt : hi < y) (hy : y < W64) (hlo : lo < W64) (w : World) :
    Calls Tryd.prog 77 #[.int .u64 hi, .int .u64 lo, .int .u64 y] w fun e w' => e = .returned (.tuple #[.int .u64 ((hi * W64 + lo) / y : Nat), .int .u64 ((hi * W64 + lo) % y : Nat)]) ∧ ∃ n, w' = w.drewN n := by
  have hy1 : (1 : Int) ≤ (y : Int) := by omega
  have hlt' : ¬ ((y : Int) ≤ (hi : Int)) := by omega
  have hy0 : (((y : Int) == 0) = false) := beq_eq_false_iff_ne.2 (by omega)
  have L1 := hid (lz_any y (by omega) hy w)
  by_cases h0 : hi = 0
  · subst h0
    have e1 : IntKind.u64.wrap ((lo : Int) / (y : Int)) = ((lo / y : Nat) : Int) := by rw [← Int.natCast_ediv]; exact wrap_in _ (Nat.lt_of_le_of_lt (Nat.div_le_self _ _) hlo)
    have e2 : (lo : Int).tmod (y : Int) = ((lo % y : Nat) : Int) := rfl
    have hz : (((0 : Nat) : Int) == 0) = true := rfl
    rw [Nat.zero_mul, Nat.zero_add]
    go_enter Tryd.func77, Tryd.ntmps77
    go_wp2
    go_quiet (fail)
    go_wp2
    go_ret2
    exact ⟨rfl, _, rfl⟩
  · have hi0 : (((hi : Int) == 0) = false) := beq_eq_false_iff_ne.2 (by omega)
    go_enter Tryd.func77, Tryd.ntmps77
    go_upto_region 8 with (first
      | (go_at_call 81; (with_reducible refine (L1.out).mono ?_); rintro e w' ⟨s, hs, rfl, HL, rfl⟩))
    have hz := HL.out
    obtain ⟨hs1, hs2, hs3⟩ := hz
    obtain ⟨Y, hY⟩ : ∃ Y, Y = y * 2 ^ s := ⟨_, rfl⟩
    obtain ⟨H, hH⟩ : ∃ H, H = hi * 2 ^ s := ⟨_, rfl⟩
    obtain ⟨L, hL⟩ : ∃ L, L = lo / 2 ^ (64 - s) := ⟨_, rfl⟩
    obtain ⟨X, hX⟩ : ∃ X, X = lo * 2 ^ s % W64 := ⟨_, rfl⟩
    have hXb : X < W64 := by rw [hX]; exact Nat.mod_lt _ (by decide)
    have hHb : H < Y := by rw [hH, hY]; exact Nat.mul_lt_mul_of_pos_right hlt (Nat.pow_pos (by omega))
    have hYb : Y < W64 := by rw [hY]; exact hs3
    have hYl : 9223372036854775808 ≤ Y := by rw [hY]; exact hs2
    have hNY : H + L < Y := by rw [hH, hL, hY]; exact shift_lt (two_pow_cut s hs) (Nat.pow_pos (by omega)) hlo hlt
    have hLs : L < 2 ^ s := by
      rw [hL]; exact Nat.div_lt_of_lt_mul (by rw [Nat.mul_comm, two_pow_cut s hs]; exact hlo)
    have eY : IntKind.u64.wrap ((y : Int) * 2 ^ s) = (Y : Int) := by
      rw [hY, show ((y : Int) * 2 ^ s) = ((y * 2 ^ s : Nat) : Int) by simp, wrap_in _ hs3]
    have eH : IntKind.u64.wrap ((hi : Int) * 2 ^ s) = (H : Int) := by
      rw [show ((hi : Int) * 2 ^ s) = ((hi * 2 ^ s : Nat) : Int) by simp, ← hH, wrap_in _ (Nat.lt_trans hHb hYb)]
    have eL : (lo : Int) / 2 ^ (64 - s) = (L : Int) := by rw [hL]; simp
    have eX : IntKind.u64.wrap ((lo : Int) * 2 ^ s) = (X : Int) := by
      rw [show ((lo : Int) * 2 ^ s) = ((lo * 2 ^ s : Nat) : Int) by simp, wrap_mod, hX]; rfl
    have eO : bits .or .u64 (H : Int) (L : Int) = ((H + L : Nat) : Int) := by
      rw [bits_or_u64_nat _ _ (Nat.lt_trans hHb hYb) (by have := Nat.lt_trans hNY hYb; unfold W64 at this; omega), nat_join s _ _ (by rw [hH]; exact Nat.mul_mod_left _ _) hLs]
    obtain ⟨y1, hy1'⟩ : ∃ y1, y1 = Y / 4294967296 := ⟨_, rfl⟩
    obtain ⟨y0, hy0'⟩ : ∃ y0, y0 = Y % 4294967296 := ⟨_, rfl⟩
    obtain ⟨x1, hx1'⟩ : ∃ x1, x1 = X / 4294967296 := ⟨_, rfl⟩
    obtain ⟨x0, hx0'⟩ : ∃ x0, x0 = X % 4294967296 := ⟨_, rfl⟩
    have d1 : (Y : Int) / 4294967296 = (y1 : Int) := by omega
    have d0 : bits .and .u64 (Y : Int) 4294967295 = (y0 : Int) := by rw [and_low _ hYb, hy0']
    have c1 : (X : Int) / 4294967296 = (x1 : Int) := by omega
    have c0 : bits .and .u64 (X : Int) 4294967295 = (x0 : Int) := by rw [and_low _ hXb, hx0']
    obtain ⟨N, hN⟩ : ∃ N, N = H + L := ⟨_, rfl⟩
    rw [← hN] at eO hNY
    have HH := hid (And.intro hH (And.intro hL (And.intro hX (And.intro hY (And.intro hN hs3)))))
    have HYd : Hid (Y = y1 * 4294967296 + y0 ∧ y0 < 4294967296 ∧ y1 < 4294967296 ∧ 2147483648 ≤ y1 ∧ N < y1 * 4294967296 + y0) := hid (by unfold W64 at hYb; omega)
    have HXd : Hid (X = x1 * 4294967296 + x0 ∧ x0 < 4294967296 ∧ x1 < 4294967296) := hid (by unfold W64 at hXb; omega)
    have hy1p : (1 : Int) ≤ (y1 : Int) := by have := HYd.out; omega
    have hN0 : (0 : Int) ≤ (N : Int) := by omega
    have HXYb := hid (And.intro hXb (And.intro hYb hYl))
    clear hH hL hX hY hN hs1 hs2 hs3 hy1' hy0' hx1' hx0' hXb hHb hYb hYl hNY hLs HL
    obtain ⟨q, hq⟩ : ∃ q, q = N / y1 := ⟨_, rfl⟩
    obtain ⟨r, hr⟩ : ∃ r, r = N % y1 := ⟨_, rfl⟩
    obtain ⟨m, hm⟩ : ∃ m, m = q * y1 := ⟨_, rfl⟩
    have hqr : m + r = N := by rw [hm, hq, hr, Nat.mul_comm]; exact Nat.div_add_mod N y1
    have hq64 : N < W64 := by have := HXYb.out.2.1; have := HYd.out; omega
    unfold W64 at hq64
    have f1 : IntKind.u64.wrap ((N : Int) / (y1 : Int)) = (q : Int) := by
      rw [hq, ← Int.natCast_ediv]; exact wrap_in _ (Nat.lt_of_le_of_lt (Nat.div_le_self _ _) hq64)
    have f2 : IntKind.u64.wrap ((q : Int) * (y1 : Int)) = (m : Int) := by rw [cast_mul, ← hm]; exact wrap_in _ (by omega)
    have f3 : IntKind.u64.wrap ((N : Int) - (m : Int)) = (r : Int) := by rw [IntKind.wrap_u64]; omega
    have hy10 : 0 < y1 := by omega
    have HQ : Hid (r < 4294967296 ∧ Dq 4294967296 y1 y0 N x1 q r) := hid (by
      rw [hq, hr]
      refine ⟨by have := Nat.mod_lt N hy10; have := HYd.out; omega, Dq.start hy10 HXd.out.2.2⟩)
    have HN := hid hq64
    clear hq hr hm hqr hq64 hy10
    go_upto_block 0 with fail
    clear eY eH eL eX eO d1 d0 c1 c0 f1 f2 f3

    go_cut [15] (fun s15 wx => w = wx ∧ ∃ q : Nat, s15 = .int .u64 q ∧ Hid (q < 4294967296 ∧ q = (N * 4294967296 + x1) / (y1 * 4294967296 + y0)))
    case first =>
      go_wp2_with fail
      go_loop [15, 16] (fun s15 s16 => ∃ q r : Nat, s15 = .int .u64 q ∧ s16 = .int .u64 r ∧ Hid (r < 4294967296 ∧ Dq 4294967296 y1 y0 N x1 q r)) (fun s15 _ => (intOf s15).toNat)
      case atStart => exact ⟨q, r, rfl, rfl, HQ⟩
      case round =>
        clear HQ
        obtain ⟨q, r, rfl, rfl, HQ⟩ := hrel
        have step : (4294967296 ≤ q ∨ 4294967296 * r + x1 < q * y0) → ∃ p r2 : Nat, IntKind.u64.wrap ((q : Int) - 1) = (p : Int) ∧ IntKind.u64.wrap ((r : Int) + (y1 : Int)) = (r2 : Int) ∧ p < q ∧ Hid (Dq 4294967296 y1 y0 N x1 p r2) := fun hc => by
          obtain ⟨h1, h2⟩ := HQ.out.2.step HYd.out.2.2.2.2 HXd.out.2.2 hc
          refine ⟨q - 1, r + y1, ?_, ?_, by omega, hid h2⟩
          · rw [IntKind.wrap_u64]; have := Dq_qlt HQ.out.2 (by have := HYd.out.2.2.2.1; omega); have := HN.out; omega
          · rw [IntKind.wrap_u64]; have := HQ.out.1; have := HYd.out.2.2.1; omega
        have fin : ∀ q r : Nat, Dq 4294967296 y1 y0 N x1 q r → q < 4294967296 ∧ q * y0 ≤ 4294967296 * r + x1 → Hid (q < 4294967296 ∧ q = (N * 4294967296 + x1) / (y1 * 4294967296 + y0)) := fun q r h1 h2 => hid ⟨h2.1, h1.done h2.2⟩
        have FIN := hid fin
        clear fin
        by_cases hge : 4294967296 ≤ q
        · obtain ⟨p, r2, e1, e2, hpq, H2⟩ := step (.inl hge)
          have hge' : (4294967296 : Int) ≤ (q : Int) := by omega
          clear step
          by_cases hr2 : 4294967296 ≤ r2
          · have hr2' : (4294967296 : Int) ≤ (r2 : Int) := by omega
            have Hd := hid (H2.out.done2 HYd.out.2.2.2.2 HYd.out.2.1 hr2)
            go_wp2
            go_meet
            exact ⟨rfl, p, rfl, Hd⟩
          · have hr2' : ¬ (4294967296 : Int) ≤ (r2 : Int) := by omega
            go_wp2
            exact ⟨⟨p, r2, rfl, rfl, hid ⟨by omega, H2.out⟩⟩, by simp [intOf]; omega⟩
        · obtain ⟨m, hm⟩ : ∃ m, m = q * y0 := ⟨_, rfl⟩
          obtain ⟨z, hz⟩ : ∃ z, z = 4294967296 * r := ⟨_, rfl⟩
          obtain ⟨t, ht⟩ : ∃ t, t = 4294967296 * r + x1 := ⟨_, rfl⟩
          rw [← hm, ← ht] at step
          have hge' : ¬ (4294967296 : Int) ≤ (q : Int) := by omega
          have hmb : m < 18446744073709551616 := by
            have h1 : q * y0 ≤ 4294967295 * 4294967295 := Nat.mul_le_mul (by omega) (by have := HYd.out.2.1; omega)
            omega
          have g1 : IntKind.u64.wrap ((q : Int) * (y0 : Int)) = (m : Int) := by rw [cast_mul, ← hm]; exact wrap_in _ hmb
          have g2 : IntKind.u64.wrap (4294967296 * (r : Int)) = (z : Int) := by rw [IntKind.wrap_u64]; have := HQ.out.1; omega
          have g3 : IntKind.u64.wrap ((z : Int) + (x1 : Int)) = (t : Int) := by rw [IntKind.wrap_u64]; have := HQ.out.1; have := HXd.out.2.2; omega
          have HM := hid hm
          have HT := hid ht
          clear hm ht hmb hz
          by_cases hgt : t < m
          · obtain ⟨p, r2, e1, e2, hpq, H2⟩ := step (.inr hgt)
            have hgt' : (t : Int) < (m : Int) := by omega
            clear step
            by_cases hr2 : 4294967296 ≤ r2
            · have hr2' : (4294967296 : Int) ≤ (r2 : Int) := by omega
              have Hd := hid (H2.out.done2 HYd.out.2.2.2.2 HYd.out.2.1 hr2)
              go_wp2
              go_meet
              exact ⟨rfl, p, rfl, Hd⟩
            · have hr2' : ¬ (4294967296 : Int) ≤ (r2 : Int) := by omega
              go_wp2
              exact ⟨⟨p, r2, rfl, rfl, hid ⟨by omega, H2.out⟩⟩, by simp [intOf]; omega⟩
          · have hgt' : ¬ (t : Int) < (m : Int) := by omega
            have Hd := FIN.out q r HQ.out.2 ⟨by omega, by rw [← HM.out, ← HT.out]; omega⟩
            clear step
            go_wp2
            go_meet
            exact ⟨rfl, q, rfl, Hd⟩
    case rest =>
      obtain ⟨rfl, q1, rfl, HQ1⟩ := hcut
      have hYe := HYd.out.1
      have hYb := HXYb.out.2.1
      unfold W64 at hYb
      have hYp : 0 < Y := by omega
      obtain ⟨R, hR⟩ : ∃ R, R = (N * 4294967296 + x1) % Y := ⟨_, rfl⟩
      have hRY : R < Y := by rw [hR]; exact Nat.mod_lt _ hYp
      obtain ⟨C, hC⟩ : ∃ C, C = q1 * Y := ⟨_, rfl⟩
      have hCR : C + R = N * 4294967296 + x1 := by
        rw [hC, hR, HQ1.out.2, ← hYe, Nat.mul_comm]; exact Nat.div_add_mod _ _
      obtain ⟨A, hA⟩ : ∃ A, A = N * 4294967296 % 18446744073709551616 := ⟨_, rfl⟩
      obtain ⟨D, hD⟩ : ∃ D, D = C % 18446744073709551616 := ⟨_, rfl⟩
      obtain ⟨E, hE⟩ : ∃ E, E = (A + x1) % 18446744073709551616 := ⟨_, rfl⟩
      have f1 : IntKind.u64.wrap ((N : Int) * 4294967296) = (A : Int) := by rw [IntKind.wrap_u64]; omega
      have f2 : IntKind.u64.wrap ((A : Int) + (x1 : Int)) = (E : Int) := by rw [IntKind.wrap_u64]; omega
      have f3 : IntKind.u64.wrap ((q1 : Int) * (Y : Int)) = (D : Int) := by rw [cast_mul, ← hC, wrap_mod, hD]
      have f4 : IntKind.u64.wrap ((E : Int) - (D : Int)) = (R : Int) := by rw [IntKind.wrap_u64]; omega
      obtain ⟨q, hq⟩ : ∃ q, q = R / y1 := ⟨_, rfl⟩
      obtain ⟨r, hr⟩ : ∃ r, r = R % y1 := ⟨_, rfl⟩
      obtain ⟨m, hm⟩ : ∃ m, m = q * y1 := ⟨_, rfl⟩
      have hqr : m + r = R := by rw [hm, hq, hr, Nat.mul_comm]; exact Nat.div_add_mod R y1
      have hq64 : R < 18446744073709551616 := by omega
      have f5 : IntKind.u64.wrap ((R : Int) / (y1 : Int)) = (q : Int) := by
        rw [hq, ← Int.natCast_ediv]; exact wrap_in _ (Nat.lt_of_le_of_lt (Nat.div_le_self _ _) hq64)
      have f6 : IntKind.u64.wrap ((q : Int) * (y1 : Int)) = (m : Int) := by rw [cast_mul, ← hm]; exact wrap_in _ (by omega)
      have f7 : IntKind.u64.wrap ((R : Int) - (m : Int)) = (r : Int) := by rw [IntKind.wrap_u64]; omega
      have hy10 : 0 < y1 := by omega
      have HQ : Hid (r < 4294967296 ∧ Dq 4294967296 y1 y0 R x0 q r) := hid (by
        rw [hq, hr]
        refine ⟨by have := Nat.mod_lt R hy10; have := HYd.out; omega, Dq.start hy10 HXd.out.2.1⟩)
      have HR := hid hq64
      have HRY : Hid (R < y1 * 4294967296 + y0) := hid (by rw [← hYe]; exact hRY)
      have HRe := hid hR
      have hR0 : (0 : Int) ≤ (R : Int) := by omega
      clear hYe hYb hYp hR hRY hC hCR hA hD hE hq hr hm hqr hq64 hy10
      go_upto_block 2 with fail
      clear f1 f2 f3 f4 f5 f6 f7
      go_cut [18] (fun s15 wx => w = wx ∧ ∃ q : Nat, s15 = .int .u64 q ∧ Hid (q < 4294967296 ∧ q = (R * 4294967296 + x0) / (y1 * 4294967296 + y0)))
      case first =>
        go_wp2_with fail
        go_loop [18, 16] (fun s15 s16 => ∃ q r : Nat, s15 = .int .u64 q ∧ s16 = .int .u64 r ∧ Hid (r < 4294967296 ∧ Dq 4294967296 y1 y0 R x0 q r)) (fun s15 _ => (intOf s15).toNat)
        case atStart => exact ⟨q, r, rfl, rfl, HQ⟩
        case round =>
          clear HQ
          obtain ⟨q, r, rfl, rfl, HQ⟩ := hrel
          have step : (4294967296 ≤ q ∨ 4294967296 * r + x0 < q * y0) → ∃ p r2 : Nat, IntKind.u64.wrap ((q : Int) - 1) = (p : Int) ∧ IntKind.u64.wrap ((r : Int) + (y1 : Int)) = (r2 : Int) ∧ p < q ∧ Hid (Dq 4294967296 y1 y0 R x0 p r2) := fun hc => by
            obtain ⟨h1, h2⟩ := HQ.out.2.step HRY.out HXd.out.2.1 hc
            refine ⟨q - 1, r + y1, ?_, ?_, by omega, hid h2⟩
            · rw [IntKind.wrap_u64]; have := Dq_qlt HQ.out.2 (by have := HYd.out.2.2.2.1; omega); have := HR.out; omega
            · rw [IntKind.wrap_u64]; have := HQ.out.1; have := HYd.out.2.2.1; omega
          have fin : ∀ q r : Nat, Dq 4294967296 y1 y0 R x0 q r → q < 4294967296 ∧ q * y0 ≤ 4294967296 * r + x0 → Hid (q < 4294967296 ∧ q = (R * 4294967296 + x0) / (y1 * 4294967296 + y0)) := fun q r h1 h2 => hid ⟨h2.1, h1.done h2.2⟩
          have FIN := hid fin
          clear fin
          by_cases hge : 4294967296 ≤ q
          · obtain ⟨p, r2, e1, e2, hpq, H2⟩ := step (.inl hge)
            have hge' : (4294967296 : Int) ≤ (q : Int) := by omega
            clear step
            by_cases hr2 : 4294967296 ≤ r2
            · have hr2' : (4294967296 : Int) ≤ (r2 : Int) := by omega
              have Hd := hid (H2.out.done2 HRY.out HYd.out.2.1 hr2)
              go_wp2
              go_meet
              exact ⟨rfl, p, rfl, Hd⟩
            · have hr2' : ¬ (4294967296 : Int) ≤ (r2 : Int) := by omega
              go_wp2
              exact ⟨⟨p, r2, rfl, rfl, hid ⟨by omega, H2.out⟩⟩, by simp [intOf]; omega⟩
          · obtain ⟨m, hm⟩ : ∃ m, m = q * y0 := ⟨_, rfl⟩
            obtain ⟨z, hz⟩ : ∃ z, z = 4294967296 * r := ⟨_, rfl⟩
            obtain ⟨t, ht⟩ : ∃ t, t = 4294967296 * r + x0 := ⟨_, rfl⟩
            rw [← hm, ← ht] at step
            have hge' : ¬ (4294967296 : Int) ≤ (q : Int) := by omega
            have hmb : m < 18446744073709551616 := by
              have h1 : q * y0 ≤ 4294967295 * 4294967295 := Nat.mul_le_mul (by omega) (by have := HYd.out.2.1; omega)
              omega
            have g1 : IntKind.u64.wrap ((q : Int) * (y0 : Int)) = (m : Int) := by rw [cast_mul, ← hm]; exact wrap_in _ hmb
            have g2 : IntKind.u64.wrap (4294967296 * (r : Int)) = (z : Int) := by rw [IntKind.wrap_u64]; have := HQ.out.1; omega
            have g3 : IntKind.u64.wrap ((z : Int) + (x0 : Int)) = (t : Int) := by rw [IntKind.wrap_u64]; have := HQ.out.1; have := HXd.out.2.1; omega
            have HM := hid hm
            have HT := hid ht
            clear hm ht hmb hz
            by_cases hgt : t < m
            · obtain ⟨p, r2, e1, e2, hpq, H2⟩ := step (.inr hgt)
              have hgt' : (t : Int) < (m : Int) := by omega
              clear step
              by_cases hr2 : 4294967296 ≤ r2
              · have hr2' : (4294967296 : Int) ≤ (r2 : Int) := by omega
                have Hd := hid (H2.out.done2 HRY.out HYd.out.2.1 hr2)
                go_wp2
                go_meet
                exact ⟨rfl, p, rfl, Hd⟩
              · have hr2' : ¬ (4294967296 : Int) ≤ (r2 : Int) := by omega
                go_wp2
                exact ⟨⟨p, r2, rfl, rfl, hid ⟨by omega, H2.out⟩⟩, by simp [intOf]; omega⟩
            · have hgt' : ¬ (t : Int) < (m : Int) := by omega
              have Hd := FIN.out q r HQ.out.2 ⟨by omega, by rw [← HM.out, ← HT.out]; omega⟩
              clear step
              go_wp2
              go_meet
              exact ⟨rfl, q, rfl, Hd⟩
      case rest =>
        obtain ⟨rfl, q0, rfl, HQ0⟩ := hcut
        have hYe := HYd.out.1
        have hYb := HXYb.out.2.1
        unfold W64 at hYb
        have hYp : 0 < Y := by omega
        have hq1 := HQ1.out.1
        have hq0 := HQ0.out.1
        have hx0 := HXd.out.2.1
        obtain ⟨Z, hZ⟩ : ∃ Z, Z = (R * 4294967296 + x0) % Y := ⟨_, rfl⟩
        have hZY : Z < Y := by rw [hZ]; exact Nat.mod_lt _ hYp
        obtain ⟨C, hC⟩ : ∃ C, C = q0 * Y := ⟨_, rfl⟩
        have hCR : C + Z = R * 4294967296 + x0 := by
          rw [hC, hZ, HQ0.out.2, ← hYe, Nat.mul_comm]; exact Nat.div_add_mod _ _
        obtain ⟨A, hA⟩ : ∃ A, A = R * 4294967296 % 18446744073709551616 := ⟨_, rfl⟩
        obtain ⟨D, hD⟩ : ∃ D, D = C % 18446744073709551616 := ⟨_, rfl⟩
        obtain ⟨E, hE⟩ : ∃ E, E = (A + x0) % 18446744073709551616 := ⟨_, rfl⟩
        obtain ⟨F, hF⟩ : ∃ F, F = q1 * 4294967296 := ⟨_, rfl⟩
        obtain ⟨G, hG⟩ : ∃ G, G = F + q0 := ⟨_, rfl⟩
        have f0 : IntKind.u64.wrap ((q1 : Int) * 4294967296) = (F : Int) := by rw [IntKind.wrap_u64]; omega
        have f00 : IntKind.u64.wrap ((F : Int) + (q0 : Int)) = (G : Int) := by rw [IntKind.wrap_u64]; omega
        have f1 : IntKind.u64.wrap ((R : Int) * 4294967296) = (A : Int) := by rw [IntKind.wrap_u64]; omega
        have f2 : IntKind.u64.wrap ((A : Int) + (x0 : Int)) = (E : Int) := by rw [IntKind.wrap_u64]; omega
        have f3 : IntKind.u64.wrap ((q0 : Int) * (Y : Int)) = (D : Int) := by rw [cast_mul, ← hC, wrap_mod, hD]
        have f4 : IntKind.u64.wrap ((E : Int) - (D : Int)) = (Z : Int) := by rw [IntKind.wrap_u64]; omega
        have HG := hid (And.intro hG hF)
        have HZ := hid hZ
        have HYP := hid hYe
        clear hYe hYb hYp hq1 hq0 hx0 hZY hC hCR hA hD hE hZ hF hG
        go_wp2
        go_ret2
        obtain ⟨hH, hL, hX, hY, hN, hs3⟩ := HH.out
        have hS : 0 < 2 ^ s := Nat.pow_pos (by omega)
        have hT : 0 < 2 ^ (64 - s) := Nat.pow_pos (by omega)
        rw [← HYP.out] at HQ1 HQ0
        have hfin := div_words (B := 4294967296) (W := W64) (S := 2 ^ s) (T := 2 ^ (64 - s)) (hi := hi) (lo := lo) (y := y) (un1 := x1) (un0 := x0) (q1 := q1) (q0 := q0) (by decide) (two_pow_cut s hs) hS hT hlo hlt
          (by rw [← hX]; exact HXd.out.1) (by rw [← hH, ← hL, ← hN, ← hY]; exact HQ1.out.2) (by rw [← hH, ← hL, ← hN, ← hY, ← HRe.out]; exact HQ0.out.2)
        rw [← hH, ← hL, ← hN, ← hY, ← HRe.out, ← HZ.out] at hfin
        have k1 : (G : Int) = (((hi * W64 + lo) / y : Nat) : Int) := by rw [HG.out.1, HG.out.2, hfin.1]
        have k2 : (Z : Int) / 2 ^ s = (((hi * W64 + lo) % y : Nat) : Int) := by rw [← hfin.2]; simp
        rw [← k1, ← k2]
        exact ⟨rfl, 0, rfl⟩
end Go.Proofs.YthkgldpcgmnaiaaDoor

set_option linter.unusedVariables false
set_option linter.unusedSimpArgs false
namespace Go.Proofs.YthkgldpcgmnaiaaDoor
open Go.RowKit Nm

theorem or_shift (a x n : Nat) (hn : n ≤ 63) (ha : a < 2 ^ n) : bits .or .u64 (a : Int) ((x * 2 ^ n % W64 : Nat) : Int) = ((a + x * 2 ^ n % W64 : Nat) : Int) ∧ a + x * 2 ^ n % W64 < W64 := by
  have hlow := shl_low (x := x) (two_pow_cut n hn)
  have hX : x * 2 ^ n % W64 < W64 := Nat.mod_lt _ (by decide)
  have hj := nat_join n (x * 2 ^ n % W64) a (by rw [hlow]; exact Nat.mul_mod_left _ _) ha
  have hb : a + x * 2 ^ n % W64 < W64 := by
    have h1 : x % 2 ^ (64 - n) < 2 ^ (64 - n) := Nat.mod_lt _ (Nat.pow_pos (by omega))
    have h2 := Nat.mul_le_mul_right (2 ^ n) (show x % 2 ^ (64 - n) + 1 ≤ 2 ^ (64 - n) from h1)
    rw [Nat.add_mul, Nat.one_mul, Nat.mul_comm (2 ^ (64 - n)), two_pow_cut n hn, ← hlow] at h2
    omega
  have ha2 : a < W64 := Nat.lt_of_le_of_lt (Nat.le_add_right _ _) hb
  refine ⟨?_, hb⟩
  rw [bits_or_u64_nat _ _ ha2 hX, Nat.or_comm, hj, Nat.add_comm]

set_option maxHeartbeats 1000000 in
theorem shiftUp_any (a : Option Addr) (L c n : Nat) (ws : List Nat) (w : World) (h : IRd w .u64 a L c ws) (hd : Dg W64 ws) (hn : n ≤ 63) (hL : L ≤ 900000) :
    Calls Tryd.prog 82 #[.slice a L c, .int .i64 n] w fun e w' => ∃ ys, e = .returned (.slice (some ⟨w.heap.size, 0, none⟩) (L + 1 : Nat) (L + 1 : Nat)) ∧ IRow w' w.heap.size 38 .u64 ys ∧
      Hid (ys.length = L + 1 ∧ V W64 ys = V W64 ws * 2 ^ n ∧ Dg W64 ys) ∧ w.grownBy w' none := by
  have hmax := h.max
  have hcap := h.cap
  have HL := hid h.len
  obtain ⟨g, hg⟩ : ∃ g, g = w.heap.size := ⟨_, rfl⟩
  go_enter Tryd.func82, Tryd.ntmps82
  go_wp2_with (first
      | (at_make; refine wl_make _ rfl _ _ 59 rfl 38 .u64 8 Tryd.underlying59 (by kernel_rfl) _ _ _ _ rfl rfl (L + 1) (by omega) (by omega) (by omega) (by omega) ?_; intro w1 hr1 hg1))
  rw [← hg] at hr1 ⊢
  have HG := hid hg
  clear hg
  go_loopw [14] (fun i wr => ∃ k : Nat, ∃ cu : List Nat, k ≤ L ∧ i = .int .i64 k ∧ IRow wr g 38 .u64 cu ∧ w1.grownBy wr (some g) ∧
      Hid (cu.length = L + 1 ∧ Dg W64 cu ∧ V W64 cu = V W64 (ws.take k) * 2 ^ n ∧ (∀ j, k < j → j < L + 1 → cu[j]? = some 0) ∧ ∀ t, cu[k]? = some t → t < 2 ^ n)) (fun i _ => L - (intOf i).toNat)
  case atStart => exact ⟨0, _, Nat.zero_le _, rfl, hr1, grown_refl _ _, hid ⟨by simp, Dg.zeros (by decide) _, by rw [V_zeros]; simp, fun j h1 h2 => by simp [h2], fun t ht => by
    have : t = 0 := by simpa using ht.symm
    rw [this]; exact Nat.pow_pos (by omega)⟩⟩
  case round =>
    obtain ⟨k, cu, hk, rfl, hr, hgr, HC⟩ := hrel
    by_cases hlt : k < L
    · have hku : k < ws.length := by rw [HL.out]; exact hlt
      obtain ⟨b', o', rfl, hc1⟩ := h.cel k hku
      have hbl := World.block_lt_of_cell? _ _ hc1
      have hc2 := hgr.cell (hg1.cell hc1 (by simp)) (by intro e; have := HG.out; simp at e hbl; omega)
      obtain ⟨x, hx⟩ : ∃ x, x = ws[k] := ⟨_, rfl⟩
      rw [← hx] at hc2
      have hxb : x < W64 := by rw [hx]; exact hd.get _ hku
      have hv := V_take_succ (B := W64) ws k hku
      rw [← hx] at hv
      have hcl : k < cu.length := by rw [HC.out.1]; omega
      have hcl1 : k + 1 < cu.length := by rw [HC.out.1]; omega
      have hcc := hr.cell k hcl
      have hfr := hr.free k
      have hcc1 := hr.cell (k + 1) hcl1
      have hfr1 := hr.free (k + 1)
      obtain ⟨t, ht⟩ : ∃ t, t = cu[k] := ⟨_, rfl⟩
      rw [← ht] at hcc
      have htb : t < 2 ^ n := HC.out.2.2.2.2 t (by rw [List.getElem?_eq_getElem hcl, ht])
      have h0 : cu[k + 1] = 0 := by
        have := HC.out.2.2.2.1 (k + 1) (by omega) (by omega)
        rw [List.getElem?_eq_getElem hcl1] at this
        simpa using this
      rw [h0] at hcc1
      have hup := up_step (W := W64) (S := 2 ^ n) (T := 2 ^ (64 - n)) (by decide) (two_pow_cut n hn) (Nat.pow_pos (by omega)) (Nat.pow_pos (by omega)) cu k x _ hcl1 hxb h0 HC.out.2.2.1
      have hos := or_shift t x n hn htb
      rw [← ht, ← hv] at hup
      obtain ⟨X, hX⟩ : ∃ X, X = x * 2 ^ n % W64 := ⟨_, rfl⟩
      obtain ⟨Z, hZ⟩ : ∃ Z, Z = x / 2 ^ (64 - n) := ⟨_, rfl⟩
      obtain ⟨U, hU⟩ : ∃ U, U = t + X := ⟨_, rfl⟩
      have hZb : Z < W64 := by rw [hZ]; exact Nat.lt_of_le_of_lt (Nat.div_le_self _ _) hxb
      rw [← hX, ← hU] at hos
      rw [← hX, ← hU, ← hZ] at hup
      have eX : IntKind.u64.wrap ((x : Int) * 2 ^ n) = (X : Int) := by
        rw [show ((x : Int) * 2 ^ n) = ((x * 2 ^ n : Nat) : Int) by simp, wrap_mod, hX]; rfl
      have eO := hos.1
      have eZ : (x : Int) / 2 ^ (64 - n) = (Z : Int) := by rw [hZ]; simp
      have HUP := hid hup
      have HUb := hid hos.2
      have HZb := hid hZb
      have hn0 : (0 : Int) ≤ (n : Int) := by omega
      have hn1 : (n : Int) ≤ 64 := by omega
      have hkk : (k : Int) + 1 < (L : Int) + 1 := by omega
      have hkk0 : (0 : Int) ≤ (k : Int) := by omega
      have hkk1 : (k : Int) < (L : Int) + 1 := by omega
      clear hx hv ht htb h0 hup hos hX hZ hU hZb hc1
      go_wp2
      go_region
      all_goals
        go_wp2
        refine ⟨⟨k + 1, (cu.set k U).set (k + 1) Z, by omega, rfl, ?_, ?_, hid ⟨by simpa using HC.out.1, (HC.out.2.1.set _ _ HUb.out).set _ _ HZb.out, HUP.out.1, fun j h1 h2 => ?_, fun t ht => ?_⟩⟩, by simp [intOf]; omega⟩
        · exact IRow.setv (IRow.setv (w := wr.drew) hr k _ U rfl) (k + 1) _ Z rfl
        · exact grown_trans (grown_trans (grown_trans hgr (grown_setCell _ _ _)) (grown_setCell _ _ _)) (grown_drew _ _)
        · rw [List.getElem?_set_ne (by omega), List.getElem?_set_ne (by omega)]
          exact HC.out.2.2.2.1 j (by omega) h2
        · rw [List.getElem?_set_self (by simpa using hcl1)] at ht
          rw [← Option.some.inj ht]; exact HUP.out.2
    · obtain rfl : k = L := by omega
      go_wp2
      go_ret
      have e1 := HC.out.2.2.1
      rw [List.take_of_length_le (by rw [HL.out]; exact Nat.le_refl _)] at e1
      exact ⟨cu, by rw [← HG.out]; rfl, by rw [← HG.out]; exact hr, hid ⟨HC.out.1, e1, HC.out.2.1⟩, grown_new hg1 hgr (fun g' e' => by cases e'; rw [HG.out]; exact Nat.le_refl _)⟩

set_option maxHeartbeats 1000000 in
theorem shiftDown_any (a : Option Addr) (L c n : Nat) (ws : List Nat) (w : World) (h : IRd w .u64 a L c ws) (hd : Dg W64 ws) (hn : n ≤ 63) (hL : L ≤ 900000) :
    Calls Tryd.prog 87 #[.slice a L c, .int .i64 n] w fun e w' => ∃ ys, e = .returned (.slice (some ⟨w.heap.size, 0, none⟩) L L) ∧ IRow w' w.heap.size 38 .u64 ys ∧
      Hid (ys.length = L ∧ V W64 ys = V W64 ws / 2 ^ n ∧ Dg W64 ys) ∧ w.grownBy w' none := by
  have hmax := h.max
  have hcap := h.cap
  have HL := hid h.len
  obtain ⟨g, hg⟩ : ∃ g, g = w.heap.size := ⟨_, rfl⟩
  go_enter Tryd.func87, Tryd.ntmps87
  go_wp2_with (first
      | (at_make; refine wl_make _ rfl _ _ 59 rfl 38 .u64 8 Tryd.underlying59 (by kernel_rfl) _ _ _ _ rfl rfl L (by omega) (by omega) (by omega) (by omega) ?_; intro w1 hr1 hg1))
  rw [← hg] at hr1 ⊢
  have HG := hid hg
  clear hg
  go_loopw [13] (fun i wr => ∃ k : Nat, ∃ cu : List Nat, k ≤ L ∧ i = .int .i64 k ∧ IRow wr g 38 .u64 cu ∧ w1.grownBy wr (some g) ∧
      Hid (cu.length = L ∧ Dg W64 cu ∧ V W64 cu = V W64 (ws.take k) / 2 ^ n ∧ (∀ j, k ≤ j → j < L → cu[j]? = some 0) ∧ ∀ j t, j + 1 = k → cu[j]? = some t → t < 2 ^ (64 - n))) (fun i _ => L - (intOf i).toNat)
  case atStart => exact ⟨0, _, Nat.zero_le _, rfl, hr1, grown_refl _ _, hid ⟨by simp, Dg.zeros (by decide) _, by rw [V_zeros]; simp, fun j h1 h2 => by simp [h2], fun j t hj ht => by omega⟩⟩
  case round =>
    obtain ⟨k, cu, hk, rfl, hr, hgr, HC⟩ := hrel
    by_cases hlt : k < L
    · have hku : k < ws.length := by rw [HL.out]; exact hlt
      obtain ⟨b', o', rfl, hc1⟩ := h.cel k hku
      have hbl := World.block_lt_of_cell? _ _ hc1
      have hc2 := hgr.cell (hg1.cell hc1 (by simp)) (by intro e; have := HG.out; simp at e hbl; omega)
      obtain ⟨x, hx⟩ : ∃ x, x = ws[k] := ⟨_, rfl⟩
      rw [← hx] at hc2
      have hxb : x < W64 := by rw [hx]; exact hd.get _ hku
      have hv := V_take_succ (B := W64) ws k hku
      rw [← hx] at hv
      have hcl : k < cu.length := by rw [HC.out.1]; omega
      have h0 : cu[k] = 0 := by
        have := HC.out.2.2.2.1 k (by omega) (by omega)
        rw [List.getElem?_eq_getElem hcl] at this
        simpa using this
      have hcc := hr.cell k hcl
      have hfr := hr.free k
      rw [h0] at hcc
      obtain ⟨Z, hZ⟩ : ∃ Z, Z = x / 2 ^ n := ⟨_, rfl⟩
      have hZb : Z < W64 := by rw [hZ]; exact Nat.lt_of_le_of_lt (Nat.div_le_self _ _) hxb
      have eZ : (x : Int) / 2 ^ n = (Z : Int) := by rw [hZ]; simp
      have hn0 : (0 : Int) ≤ (n : Int) := by omega
      have hn1 : (n : Int) ≤ 64 := by omega
      have hkk0 : (0 : Int) ≤ (k : Int) := by omega
      have hkk1 : (k : Int) < (L : Int) := by omega
      have hZt : Z < 2 ^ (64 - n) := by rw [hZ]; exact Nat.div_lt_of_lt_mul (by rw [two_pow_cut n hn]; exact hxb)
      by_cases hk0 : 0 < k
      · obtain ⟨j, rfl⟩ : ∃ j, k = j + 1 := ⟨k - 1, by omega⟩
        have hclj : j < cu.length := by omega
        have hccj := hr.cell j hclj
        have hfrj := hr.free j
        obtain ⟨t, ht⟩ : ∃ t, t = cu[j] := ⟨_, rfl⟩
        rw [← ht] at hccj
        have htb : t < 2 ^ (64 - n) := HC.out.2.2.2.2 j t rfl (by rw [List.getElem?_eq_getElem hclj, ht])
        have hds := down_step (W := W64) (S := 2 ^ n) (T := 2 ^ (64 - n)) (by decide) (two_pow_cut n hn) (Nat.pow_pos (by omega)) (Nat.pow_pos (by omega)) cu j x _ hcl hxb h0 HC.out.2.2.1
        have hos : bits .or .u64 (t : Int) ((x * 2 ^ (64 - n) % W64 : Nat) : Int) = ((t + x * 2 ^ (64 - n) % W64 : Nat) : Int) ∧ t + x * 2 ^ (64 - n) % W64 < W64 := by
          rcases Nat.eq_zero_or_pos n with hn0 | hn0
          · have e64 : x * 2 ^ (64 - n) % W64 = 0 := by rw [hn0]; exact Nat.mul_mod_left x W64
            rw [e64]
            have : t < W64 := by rw [hn0] at htb; exact htb
            exact ⟨by rw [bits_or_u64_nat _ _ this (by decide)]; simp, by simpa using this⟩
          · exact or_shift t x (64 - n) (by omega) htb
        rw [← ht, ← hv] at hds
        obtain ⟨X, hX⟩ : ∃ X, X = x * 2 ^ (64 - n) % W64 := ⟨_, rfl⟩
        obtain ⟨U, hU⟩ : ∃ U, U = t + X := ⟨_, rfl⟩
        rw [← hX, ← hU] at hos
        rw [← hX, ← hU, ← hZ] at hds
        have eX : IntKind.u64.wrap ((x : Int) * 2 ^ (64 - n)) = (X : Int) := by
          rw [show ((x : Int) * 2 ^ (64 - n)) = ((x * 2 ^ (64 - n) : Nat) : Int) by simp, wrap_mod, hX]; rfl
        have eO := hos.1
        have HUP := hid hds
        have HUb := hid hos.2
        have HZb := hid hZb
        have HZt := hid hZt
        have hj1 : (j : Int) < (L : Int) := by omega
        have hj0 : (0 : Int) ≤ (j : Int) := by omega
        clear hx hv ht htb h0 hds hos hX hZ hU hZb hc1 hZt
        go_wp2
        go_region
        all_goals
          go_wp2
          refine ⟨⟨j + 1 + 1, (cu.set (j + 1) Z).set j U, by omega, rfl, ?_, ?_, hid ⟨by simpa using HC.out.1, (HC.out.2.1.set _ _ HZb.out).set _ _ HUb.out, HUP.out.1, fun j' h1 h2 => ?_, fun j' t hj ht => ?_⟩⟩, by simp [intOf]; omega⟩
          · exact IRow.setv (IRow.setv (w := wr) hr (j + 1) _ Z rfl) j _ U rfl
          · exact grown_trans (grown_trans (grown_trans hgr (grown_setCell _ _ _)) (grown_setCell _ _ _)) (grown_drew _ _)
          · rw [List.getElem?_set_ne (by omega), List.getElem?_set_ne (by omega)]
            exact HC.out.2.2.2.1 j' (by omega) h2
          · obtain rfl : j' = j + 1 := by omega
            rw [List.getElem?_set_ne (by omega), List.getElem?_set_self hcl] at ht
            rw [← Option.some.inj ht]; exact HZt.out
      · obtain rfl : k = 0 := by omega
        have hdf := down_first (W := W64) (S := 2 ^ n) cu x hcl h0 (by rw [HC.out.2.2.1]; simp)
        rw [← hZ] at hdf
        have e2 : V W64 (cu.set 0 Z) = V W64 (ws.take 1) / 2 ^ n := by rw [hdf, hv, hZ]; simp
        have HUP := hid e2
        have HZb := hid hZb
        have HZt := hid hZt
        clear hx hv h0 hZ hZb hc1 hZt hdf e2
        rw [Nat.add_zero] at hc2
        go_wp2
        refine ⟨⟨1, cu.set 0 Z, by omega, rfl, IRow.setv (w := wr) hr 0 _ Z rfl, grown_trans hgr (grown_setCell _ _ _), hid ⟨by simpa using HC.out.1, HC.out.2.1.set _ _ HZb.out, HUP.out, fun j' h1 h2 => ?_, fun j' t hj ht => ?_⟩⟩, by simp [intOf]; omega⟩
        · rw [List.getElem?_set_ne (by omega)]
          exact HC.out.2.2.2.1 j' (by omega) h2
        · obtain rfl : j' = 0 := by omega
          rw [List.getElem?_set_self hcl] at ht
          rw [← Option.some.inj ht]; exact HZt.out
    · obtain rfl : k = L := by omega
      go_wp2
      go_ret
      have e1 := HC.out.2.2.1
      rw [List.take_of_length_le (by rw [HL.out]; exact Nat.le_refl _)] at e1
      exact ⟨cu, by rw [← HG.out]; rfl, by rw [← HG.out]; exact hr, hid ⟨HC.out.1, e1, HC.out.2.1⟩, grown_new hg1 hgr (fun g' e' => by cases e'; rw [HG.out]; exact Nat.le_refl _)⟩
end Go.Proofs.YthkgldpcgmnaiaaDoor

set_option linter.unusedVariables false
set_option linter.unusedSimpArgs false
namespace Go.Proofs.YthkgldpcgmnaiaaDoor
open Go.RowKit Nm

theorem drewN_add (w : World) (a b : Nat) : (w.drewN a).drewN b = w.drewN (a + b) := by unfold World.drewN; simp [Nat.add_assoc]

set_option maxHeartbeats 1000000 in
theorem digit_any (high mid low first second : Nat) (hb : high < W64) (mb : mid < W64) (lb : low < W64) (fb : first < W64) (sb : second < W64) (fa sa : Addr) (w : World)
    (hf : w.cell? fa = some (.int .u64 first)) (hs : w.cell? sa = some (.int .u64 second)) :
    Calls Tryd.prog 83 #[.int .u64 high, .int .u64 mid, .int .u64 low, .pointer (some fa), .pointer (some sa)] w fun e w' => ∃ d : Nat, e = .returned (.int .u64 d) ∧
      Hid (d = if first ≤ high then W64 - 1 else (high * W64 * W64 + mid * W64 + low) / (first * W64 + second)) ∧ ∃ n, w' = w.drewN n := by
  by_cases hh : first ≤ high
  · have hh' : (first : Int) ≤ (high : Int) := by omega
    have HH := hid hh
    rw [if_pos hh]
    clear hh
    go_enter Tryd.func83, Tryd.ntmps83
    go_wp2
    go_ret
    exact ⟨18446744073709551615, rfl, hid rfl, 0, rfl⟩
  · have hlt : high < first := by omega
    have hh' : ¬ (first : Int) ≤ (high : Int) := by omega
    have hD := hid (div64_any high mid first hlt fb mb w)
    have hq : (high * W64 + mid) / first < W64 := Nat.div_lt_of_lt_mul (by
      have := Nat.mul_le_mul_right W64 (show high + 1 ≤ first from hlt)
      rw [Nat.add_mul, Nat.one_mul] at this; omega)
    have hr : (high * W64 + mid) % first < first := Nat.mod_lt _ (by omega)
    have HDQ := hid (Dq.start (B := W64) (y1 := first) (y0 := second) (n := high * W64 + mid) (u := low) (by omega) lb)
    have HN : Hid (high * W64 + mid < first * W64 + second) := hid (by
      have := Nat.mul_le_mul_right W64 (show high + 1 ≤ first from hlt)
      rw [Nat.add_mul, Nat.one_mul] at this; omega)
    have HE : Hid ((high * W64 + mid) * W64 + low = high * W64 * W64 + mid * W64 + low) := hid (by rw [Nat.add_mul])
    rw [if_neg hh]
    rw [← HE.out]
    obtain ⟨N, hN⟩ : ∃ N, N = high * W64 + mid := ⟨_, rfl⟩
    rw [← hN] at hD hq hr HDQ HN ⊢
    obtain ⟨q, hq'⟩ : ∃ q, q = N / first := ⟨_, rfl⟩
    obtain ⟨r, hr'⟩ : ∃ r, r = N % first := ⟨_, rfl⟩
    rw [← hq', ← hr'] at HDQ hD
    rw [← hq'] at hq
    rw [← hr'] at hr
    have hrW : r < W64 := Nat.lt_trans hr fb
    clear hN hq' hr' HE hh hr
    go_enter Tryd.func83, Tryd.ntmps83
    go_wp2_with (go_at_call 77; (with_reducible refine (hD.out).mono ?_); rintro e w' ⟨rfl, nd, rfl⟩)
    go_loopw [9, 10] (fun s9 s10 wr => ∃ q r n : Nat, s9 = .int .u64 q ∧ s10 = .int .u64 r ∧ q < W64 ∧ r < W64 ∧ wr = w.drewN n ∧ Hid (Dq W64 first second N low q r)) (fun s9 _ _ => (intOf s9).toNat)
    case atStart => exact ⟨q, r, nd, rfl, rfl, hq, hrW, rfl, HDQ⟩
    case round =>
      clear hq hrW HDQ
      obtain ⟨q, r, n, rfl, rfl, hq, hrW, rfl, HDQ⟩ := hrel
      have step : W64 * r + low < q * second → ∃ p r2 : Nat, IntKind.u64.wrap ((q : Int) - 1) = (p : Int) ∧ IntKind.u64.wrap ((r : Int) + (first : Int)) = (r2 : Int) ∧ p < q ∧ r2 < W64 ∧
          ((r2 < first ∧ Hid (p = (N * W64 + low) / (first * W64 + second))) ∨ (first ≤ r2 ∧ Hid (Dq W64 first second N low p r2))) := fun hc => by
        obtain ⟨h1, h2⟩ := HDQ.out.step HN.out lb (.inr hc)
        refine ⟨q - 1, (r + first) % 18446744073709551616, ?_, ?_, by omega, Nat.mod_lt _ (by decide), ?_⟩
        · rw [IntKind.wrap_u64]; unfold W64 at hq; omega
        · rw [IntKind.wrap_u64]; omega
        · unfold W64 at hrW fb
          by_cases ho : r + first < 18446744073709551616
          · right
            rw [Nat.mod_eq_of_lt ho]
            exact ⟨by omega, hid h2⟩
          · left
            refine ⟨by omega, hid (h2.done2 HN.out sb (by unfold W64; omega)).2⟩
      have STEP := hid step
      clear step
      have FIN := hid (fun h => HDQ.out.done h)
      go_wp2_with fail
      refine (mul64_any q second hq sb _).mono ?_
      rintro e w' ⟨hi, lo, rfl, hhi, hlo, HM, rfl⟩
      have back : ∀ c : Prop, (¬ c → W64 * r + low < q * second) → (c → q * second ≤ W64 * r + low) → (c ∧ Hid (q = (N * W64 + low) / (first * W64 + second))) ∨ (¬ c ∧ ∃ p r2 : Nat, IntKind.u64.wrap ((q : Int) - 1) = (p : Int) ∧ IntKind.u64.wrap ((r : Int) + (first : Int)) = (r2 : Int) ∧ p < q ∧ r2 < W64 ∧
          ((r2 < first ∧ Hid (p = (N * W64 + low) / (first * W64 + second))) ∨ (first ≤ r2 ∧ Hid (Dq W64 first second N low p r2)))) := fun c h1 h2 => by
        by_cases hc : c
        · exact .inl ⟨hc, hid (FIN.out (h2 hc))⟩
        · exact .inr ⟨hc, STEP.out (h1 hc)⟩
      rcases Nat.lt_trichotomy hi r with h1 | h1 | h1
      · have h1' : (hi : Int) < (r : Int) := by omega
        have hle : q * second ≤ W64 * r + low := by
          have := Nat.mul_le_mul_left W64 (show hi + 1 ≤ r from h1)
          rw [HM.out]; rw [Nat.mul_add] at this; omega
        have hfin := hid (FIN.out hle)
        clear back STEP FIN
        go_wp2
        go_ret
        exact ⟨q, rfl, hfin, n, rfl⟩
      · subst h1
        have h1' : ¬ (hi : Int) < (hi : Int) := by omega
        have h1e : (((hi : Int) == (hi : Int)) = true) := by simp
        by_cases h2 : lo ≤ low
        · have h2' : (lo : Int) ≤ (low : Int) := by omega
          have hfin := hid (FIN.out (by rw [HM.out]; omega))
          clear back STEP FIN
          go_wp2
          go_ret
          exact ⟨q, rfl, hfin, n, rfl⟩
        · have h2' : ¬ (lo : Int) ≤ (low : Int) := by omega
          obtain ⟨p, r2, e1, e2, hpq, hr2, h3⟩ := STEP.out (by rw [HM.out]; omega)
          clear back STEP FIN
          rcases h3 with ⟨h3, h4⟩ | ⟨h3, h4⟩
          · have h3' : (r2 : Int) < (first : Int) := by omega
            go_wp2
            go_ret
            exact ⟨p, rfl, h4, n, rfl⟩
          · have h3' : ¬ (r2 : Int) < (first : Int) := by omega
            go_wp2
            exact ⟨⟨p, r2, n, rfl, rfl, Nat.lt_trans hpq hq, hr2, rfl, h4⟩, by simp [intOf]; omega⟩
      · have h1' : ¬ (hi : Int) < (r : Int) := by omega
        have h1e : (((hi : Int) == (r : Int)) = false) := beq_eq_false_iff_ne.2 (by omega)
        obtain ⟨p, r2, e1, e2, hpq, hr2, h3⟩ := STEP.out (by
          have := Nat.mul_le_mul_left W64 (show r + 1 ≤ hi from h1)
          rw [HM.out]; rw [Nat.mul_add] at this; omega)
        clear back STEP FIN
        rcases h3 with ⟨h3, h4⟩ | ⟨h3, h4⟩
        · have h3' : (r2 : Int) < (first : Int) := by omega
          go_wp2
          go_ret
          exact ⟨p, rfl, h4, n, rfl⟩
        · have h3' : ¬ (r2 : Int) < (first : Int) := by omega
          go_wp2
          exact ⟨⟨p, r2, n, rfl, rfl, Nat.lt_trans hpq hq, hr2, rfl, h4⟩, by simp [intOf]; omega⟩

/-- the digit for three words of what is left and the two highest words of the divisor -/
def dgt (first second high mid low : Nat) : Nat := if first ≤ high then W64 - 1 else (high * W64 * W64 + mid * W64 + low) / (first * W64 + second)

theorem digit_q (high mid low first second : Nat) (hb : high < W64) (mb : mid < W64) (lb : low < W64) (fb : first < W64) (sb : second < W64) (fa sa : Addr) (w : World)
    (hf : w.cell? fa = some (.int .u64 first)) (hs : w.cell? sa = some (.int .u64 second)) :
    Calls Tryd.prog 83 #[.int .u64 high, .int .u64 mid, .int .u64 low, .pointer (some fa), .pointer (some sa)] w fun e w' => e = .returned (.int .u64 (dgt first second high mid low : Nat)) ∧ ∃ n, w' = w.drewN n :=
  (digit_any high mid low first second hb mb lb fb sb fa sa w hf hs).mono fun e w' ⟨d, he, hd, hw⟩ => ⟨by rw [he, hd.out]; rfl, hw⟩
end Go.Proofs.YthkgldpcgmnaiaaDoor

set_option linter.unusedVariables false
set_option linter.unusedSimpArgs false
namespace Go.Proofs.YthkgldpcgmnaiaaDoor
open Go.RowKit Nm

theorem div_down {W x y v Q : Nat} (hx : 0 < x) (hQ : Q = v / x) : (v % x * W + y) / x + W * Q = (y + W * v) / x ∧ (v % x * W + y) % x = (y + W * v) % x := by
  have h := Nat.div_add_mod v x
  have e : y + W * v = x * (W * Q) + (v % x * W + y) := by
    rw [hQ]
    have h2 := congrArg (W * ·) h
    simp only [Nat.mul_add] at h2
    rw [← h2, Nat.mul_left_comm, Nat.mul_comm (v % x) W]; omega
  rw [e]
  exact ⟨by rw [Nat.mul_add_div hx]; omega, by rw [Nat.mul_add_mod]⟩

set_option maxHeartbeats 1000000 in
theorem divW_any (g m c : Nat) (cur : List Nat) (x : Nat) (w : World) (hrow : IRow w g 38 .u64 cur) (hm : m ≤ cur.length) (hmc : m ≤ c) (hc : c ≤ 9223372036854775807) (hlen : cur.length ≤ 900000) (hcur : Dg W64 cur) (hx0 : 0 < x) (hx : x < W64) :
    Calls Tryd.prog 66 #[.slice (some ⟨g, 0, none⟩) m c, .int .u64 x] w fun e w' => ∃ cur' : List Nat, e = .returned (.int .u64 (V W64 (cur.take m) % x : Nat)) ∧ IRow w' g 38 .u64 cur' ∧ w.grownBy w' (some g) ∧
      Hid (cur'.length = cur.length ∧ Dg W64 cur' ∧ V W64 (cur'.take m) = V W64 (cur.take m) / x ∧ ∀ j, m ≤ j → cur'[j]? = cur[j]?) := by
  go_enter Tryd.func66, Tryd.ntmps66
  go_wp2_with fail
  go_loopw [5, 6] (fun s5 i wr => ∃ (k : Nat) (cu : List Nat), k ≤ m ∧ i = .int .i64 ((k : Int) - 1) ∧ s5 = .int .u64 (V W64 ((cur.take m).drop k) % x : Nat) ∧ IRow wr g 38 .u64 cu ∧ w.grownBy wr (some g) ∧
      Hid (cu.length = cur.length ∧ Dg W64 cu ∧ V W64 ((cu.take m).drop k) = V W64 ((cur.take m).drop k) / x ∧ ∀ j, j < k ∨ m ≤ j → cu[j]? = cur[j]?)) (fun _ i _ => (intOf i + 1).toNat)
  case atStart =>
    have e0 : (cur.take m).drop m = [] := List.drop_of_length_le (by simp; omega)
    refine ⟨m, cur, Nat.le_refl _, rfl, ?_, hrow, grown_refl _ _, hid ⟨rfl, hcur, ?_, fun _ _ => rfl⟩⟩
    · rw [e0]; simp
    · rw [e0]; simp
  case round =>
    obtain ⟨k, cu, hk, rfl, rfl, hr, hgr, HC⟩ := hrel
    by_cases h0 : 0 < k
    · obtain ⟨i, rfl⟩ : ∃ i, k = i + 1 := ⟨k - 1, by omega⟩
      have hil : i < cu.length := by rw [HC.out.1]; omega
      have hcc := hr.cell i hil
      have hfr := hr.free i
      obtain ⟨y, hy⟩ : ∃ y, y = cu[i] := ⟨_, rfl⟩
      rw [← hy] at hcc
      have hyb : y < W64 := by rw [hy]; exact HC.out.2.1.get _ hil
      have hyc : (cur.take m)[i]'(by simp; omega) = y := by
        have := HC.out.2.2.2 i (.inl (by omega))
        rw [List.getElem?_eq_getElem hil, List.getElem?_eq_getElem (by omega)] at this
        simp only [Option.some.injEq] at this
        rw [hy, this]; simp
      have hv := V_drop_succ (B := W64) (cur.take m) i (by simp; omega)
      rw [hyc] at hv
      obtain ⟨v, hv'⟩ : ∃ v, v = V W64 ((cur.take m).drop (i + 1)) := ⟨_, rfl⟩
      rw [← hv'] at hv ⊢
      have hdd := div_down (W := W64) (x := x) (y := y) (v := v) (Q := v / x) hx0 rfl
      obtain ⟨s, hs⟩ : ∃ s, s = v % x := ⟨_, rfl⟩
      have hsx : s < x := by rw [hs]; exact Nat.mod_lt _ hx0
      rw [← hs] at hdd ⊢
      obtain ⟨q, hq⟩ : ∃ q, q = (s * W64 + y) / x := ⟨_, rfl⟩
      obtain ⟨r, hr'⟩ : ∃ r, r = (s * W64 + y) % x := ⟨_, rfl⟩
      have HD := div64_any s y x hsx hx hyb
      rw [← hq, ← hr'] at hdd HD
      have HD' := hid HD
      have HV := hid hv
      have HV' := hid hv'
      have hqb : q < W64 := by rw [hq]; exact Nat.div_lt_of_lt_mul (by
        have := Nat.mul_le_mul_right W64 (show s + 1 ≤ x from hsx)
        rw [Nat.add_mul, Nat.one_mul] at this; omega)
      have HY := hid hy
      have HDD := hid hdd
      clear hy hyc hv hv' hs hq hr' HD hdd
      have hi1 : (0 : Int) ≤ (i : Int) := by omega
      have hi2 : (i : Int) < (m : Int) := by omega
      go_wp2_with (go_at_call 77; (with_reducible refine (HD'.out _).mono ?_); rintro e w' ⟨rfl, nd, rfl⟩)
      refine ⟨⟨i, cu.set i q, by omega, by congr 1, ?_, (IRow.setv (w := wr.drewN nd) hr i _ q rfl), grown_trans (gdN hgr nd) (grown_setCell _ _ _), hid ⟨by simpa using HC.out.1, HC.out.2.1.set _ _ hqb, ?_, fun j hj => ?_⟩⟩, by simp [intOf]⟩
      · rw [HV.out, HDD.out.2]
      · have e1 : ((cu.set i q).take m).drop i = q :: ((cu.take m).drop (i + 1)) := by
          rw [List.take_set, List.drop_eq_getElem_cons (by simp; omega)]
          congr 1
          · simp
          · rw [List.drop_set_of_lt (by omega)]
        rw [e1, V_cons, HC.out.2.2.1, HV.out, ← HDD.out.1, HV'.out]
      · rw [List.getElem?_set_ne (by omega)]
        exact HC.out.2.2.2 j (by omega)
    · obtain rfl : k = 0 := by omega
      go_wp2
      go_ret
      refine ⟨cu, rfl, hr, hgr, hid ⟨HC.out.1, HC.out.2.1, ?_, fun j hj => HC.out.2.2.2 j (.inr hj)⟩⟩
      have := HC.out.2.2.1
      rwa [List.drop_zero, List.drop_zero] at this
end Go.Proofs.YthkgldpcgmnaiaaDoor

set_option linter.unusedVariables false
namespace Nm
theorem KInv.right {W n Lq v U i m d bor : Nat} {cu cq cu1 : List Nat} (hW : 1 < W) (h : KInv W n Lq v U (i + 1) cu cq) (hv : v ≤ W ^ m) (him : i + m ≤ n) (hm : 0 < m) (hiq : i < Lq) (hl : cu1.length = cu.length) (hd : Dg W cu1)
    (e : V W cu1 + W ^ i * (d * v) = V W cu + W ^ (i + m) * bor) (hs : ∀ j, j < i ∨ i + m ≤ j → cu1[j]? = cu[j]?) (him2 : i + m < cu.length)
    (hle : bor ≤ cu[i + m]) (hdW : d < W) (hlt : V W (cu.drop i) < (d + 1) * v) : KInv W n Lq v U i (cu1.set (i + m) 0) (cq.set i d) := by
  have h1 := knuth_sub hW h hv him hl hd e hs him2
  have h2 := clear_top hW h hv him hl hs
  have h3 := digit_right h1.1 hle hlt hv
  refine KInv.next (by omega) h (by omega) hiq (by simpa using hl) (hd.set _ _ (by omega)) h2.2 hdW ?_ ?_
  · rw [h2.1]; exact h3.1
  · rw [h2.1]; exact h3.2

theorem KInv.less {W n Lq v U i m d bor c : Nat} {cu cq cu1 cu2 : List Nat} (hW : 1 < W) (h : KInv W n Lq v U (i + 1) cu cq) (hv : v ≤ W ^ m) (him : i + m ≤ n) (hm : 0 < m) (hiq : i < Lq) (hl : cu1.length = cu.length) (hd : Dg W cu1)
    (e : V W cu1 + W ^ i * (d * v) = V W cu + W ^ (i + m) * bor) (hs : ∀ j, j < i ∨ i + m ≤ j → cu1[j]? = cu[j]?) (him2 : i + m < cu.length)
    (hlt : cu[i + m] < bor) (hdW : d < W) (hdv : d * v < V W (cu.drop i) + v) (hl2 : cu2.length = cu1.length) (hd2 : Dg W cu2) (e2 : V W cu2 + W ^ (i + m) * c = V W cu1 + W ^ i * v)
    (hs2 : ∀ j, j < i ∨ i + m ≤ j → cu2[j]? = cu1[j]?) : 1 ≤ d ∧ KInv W n Lq v U i (cu2.set (i + m) 0) (cq.set i (d - 1)) := by
  have hlu := h.lu
  have h1 := knuth_sub hW h hv him hl hd e hs him2
  have hs' : ∀ j, j < i ∨ i + m ≤ j → cu2[j]? = cu[j]? := fun j hj => (hs2 j hj).trans (hs j hj)
  have h2 := clear_top hW h hv him (hl2.trans hl) hs'
  obtain ⟨t1, t2⟩ := same_parts hs2
  have h4 := drop_level (W := W) (by omega) (by omega) hl2.symm t1.symm e2.symm
  have f1 := V_take_drop (B := W) (cu1.drop i) m (by simp; omega)
  have f2 := V_take_drop (B := W) (cu2.drop i) m (by simp; omega)
  rw [List.drop_drop] at f1 f2
  rw [t2] at f2
  have h5 : V W ((cu2.drop i).take m) + W ^ m * c = V W ((cu1.drop i).take m) + v := by omega
  have h6 : V W ((cu2.drop i).take m) < W ^ m := by
    have h7 := ((hd2.drop i).take m).lt
    have h8 : W ^ ((cu2.drop i).take m).length ≤ W ^ m := Nat.pow_le_pow_right (by omega) (List.length_take_le _ _)
    omega
  have h3 := digit_less h1.1 hlt h1.2 hdv h5 h6 hv
  refine ⟨h3.1, KInv.next (by omega) h (by omega) hiq (by simpa using hl2.trans hl) (hd2.set _ _ (by omega)) h2.2 (by omega) ?_ ?_⟩
  · rw [h2.1]; exact h3.2.1
  · rw [h2.1]; exact h3.2.2

/-- the digit that the three highest words give -/
theorem KInv.digit {W n Lq v U i m first second d : Nat} {cu cq zs : List Nat} (hW : 1 < W) (h : KInv W n Lq v U (i + 1) cu cq) (hv : v < W ^ (m + 2)) (hz : Dg W zs) (lz : zs.length = m + 2 + 1) (hvz : V W zs = v) (hvt : V W (zs.take (m + 2)) = v)
    (h1 : first = zs[m + 1]) (h0 : second = zs[m]) (hf : W ≤ 2 * first) (hi : i + (m + 2) < cu.length)
    (hd : d = if first ≤ cu[i + (m + 2)] then W - 1 else (cu[i + (m + 2)] * W * W + cu[i + (m + 1)] * W + cu[i + m]) / (first * W + second)) :
    d < W ∧ V W (cu.drop i) < (d + 1) * v ∧ d * v < V W (cu.drop i) + v := by
  have hlu := h.lu
  obtain ⟨Rlow, r1, r2, r3⟩ := three_words hW cu h.du i m (by omega) v (Nat.le_of_lt hv) h.lt (by omega)
  obtain ⟨Vlow, v1, v2⟩ := two_top hW (zs.take (m + 2)) (hz.take _) m (by simp; omega)
  rw [hvt] at v2
  have g1 : (zs.take (m + 2))[m + 1]'(by simp; omega) = first := by rw [h1]; simp
  have g0 : (zs.take (m + 2))[m]'(by simp; omega) = second := by rw [h0]; simp
  rw [g1, g0] at v2
  exact digit_est hf (by omega) v2 v1 r2 r1 (by rw [h0]; exact hz.get _ _) (h.du.get _ _) (h.du.get _ _) r3 hd
end Nm

set_option linter.unusedVariables false
set_option linter.unusedSimpArgs false
namespace Go.Proofs.YthkgldpcgmnaiaaDoor
open Go.RowKit Nm

theorem boxes2 (w : World) (x y : Nat) (T : TypeId) :
    ((w.alloc (.cells #[.int .u64 x] T)).alloc (.cells #[.int .u64 y] T)).drew.cell? ⟨w.heap.size, 0, none⟩ = some (.int .u64 x) ∧
    ((w.alloc (.cells #[.int .u64 x] T)).alloc (.cells #[.int .u64 y] T)).drew.cell? ⟨w.heap.size + 1, 0, none⟩ = some (.int .u64 y) ∧
    w.grownBy ((w.alloc (.cells #[.int .u64 x] T)).alloc (.cells #[.int .u64 y] T)).drew none := by
  refine ⟨?_, ?_, ?_⟩
  · refine (grown_drew _ none).cell ((World.grownBy_alloc _ _ none).cell ?_ (by simp)) (by simp)
    exact (by simp [go_sem])
  · refine (grown_drew _ none).cell ?_ (by simp)
    exact (by simp [go_sem])
  · exact grown_trans (grown_trans (World.grownBy_alloc _ _ none) (World.grownBy_alloc _ _ none)) (grown_drew _ none)

set_option maxRecDepth 100000 in
set_option maxHeartbeats 2000000 in
theorem divide_len (a b : Option Addr) (n m c d : Nat) (us vs : List Nat) (w : World) (h : IRd w .u64 a n c us) (k : IRd w .u64 b (m + 2) d vs) (hu : Dg W64 us) (hv : Dg W64 vs) (hmn : m + 2 ≤ n) (hn : n ≤ 800000) (hm : m + 2 ≤ 800000)
    (htop : ∀ t, vs[m + 1]? = some t → 0 < t) :
    Calls Tryd.prog 69 #[.slice a n c, .slice b (m + 2 : Nat) d] w fun e w' => ∃ (a1 a2 : Option Addr) (n1 n2 : Nat) (qs rs : List Nat), e = .returned (.tuple #[.slice a1 n1 n1, .slice a2 n2 n2]) ∧
      IRd w' .u64 a1 n1 n1 qs ∧ IRd w' .u64 a2 n2 n2 rs ∧ n1 ≤ 900000 ∧ n2 ≤ 900000 ∧ Hid (Dg W64 qs ∧ Dg W64 rs ∧ V W64 qs = V W64 us / V W64 vs ∧ V W64 rs = V W64 us % V W64 vs ∧ rs.length = n + 1) ∧ w.grownBy w' none := by
  have hmax := h.max
  have hcap := h.cap
  have kmax := k.max
  have kcap := k.cap
  have hvl : m + 1 < vs.length := by rw [k.len]; omega
  obtain ⟨bv, ov, rfl, hcv⟩ := k.cel (m + 1) hvl
  obtain ⟨t, ht⟩ : ∃ t, t = vs[m + 1] := ⟨_, rfl⟩
  rw [← ht] at hcv
  have htb : t < W64 := by rw [ht]; exact hv.get _ hvl
  have ht0 : 0 < t := htop t (by rw [List.getElem?_eq_getElem hvl, ht])
  have L1 := hid (lz_any t ht0 htb w)
  have HT := hid ht
  clear ht htop
  have hm1 : (0 : Int) ≤ (m : Int) + 2 - 1 := by omega
  go_enter Tryd.func69, Tryd.ntmps69
  go_upto_region 2 with (go_at_call 81; (with_reducible refine (L1.out).mono ?_); rintro e w' ⟨s, hs, rfl, HLZ, rfl⟩)
  clear hcv L1
  go_upto_region 3 with (first
    | (go_at_call 82; (with_reducible refine (shiftUp_any _ n c s us _ h hu hs (by omega)).mono ?_); rintro e w1 ⟨ys, rfl, hr1, HY, hg1⟩)
    | (go_at_call 82; (with_reducible refine (shiftUp_any _ (m + 2) d s vs _ (k.keep hg1) hv hs (by omega)).mono ?_); rintro e w2 ⟨zs, rfl, hr2, HZ, hg2⟩))
  obtain ⟨g0, hg0⟩ : ∃ g, g = w.heap.size := ⟨_, rfl⟩
  obtain ⟨g1, hg1'⟩ : ∃ g, g = w1.heap.size := ⟨_, rfl⟩
  rw [← hg0] at hr1 ⊢
  rw [← hg1'] at hr2 ⊢
  have h01 : g0 < g1 := by rw [hg1']; exact hr1.lt
  have h12 : g1 < w2.heap.size := hr2.lt
  have hr1 := hr1.kept hg2 (by simp)
  have hW := grown_trans hg1 hg2
  have HG0 := hid hg0
  have h0w : w.heap.size ≤ g0 := by omega
  clear hg0 hg1' hg1 hg2
  have hS : 0 < 2 ^ s := Nat.pow_pos (by omega)
  have hnt := norm_top (W := W64) (S := 2 ^ s) (T := 2 ^ (64 - s)) (by decide) (two_pow_cut s hs) vs zs hv HZ.out.2.2 m t (by rw [k.len]) HZ.out.1 HT.out HZ.out.2.1 (by have := HLZ.out.2.1; unfold W64; omega) (by have := HLZ.out.2.2; unfold W64; omega) hS
  have hzl1 : m + 1 < zs.length := by rw [HZ.out.1]; omega
  have hzl0 : m < zs.length := by rw [HZ.out.1]; omega
  have hc1 := hr2.cell (m + 1) hzl1
  have hc0 := hr2.cell m hzl0
  obtain ⟨first, hfst⟩ : ∃ f, f = zs[m + 1] := ⟨_, rfl⟩
  obtain ⟨second, hsnd⟩ : ∃ f, f = zs[m] := ⟨_, rfl⟩
  rw [← hfst] at hc1 hnt
  rw [← hsnd] at hc0
  have hfb : first < W64 := by rw [hfst]; exact HZ.out.2.2.get _ hzl1
  have hsb : second < W64 := by rw [hsnd]; exact HZ.out.2.2.get _ hzl0
  have HF := hid hfst
  have HS := hid hsnd
  have HNT := hid hnt
  clear hfst hsnd hnt
  have hm2 : (0 : Int) ≤ (m : Int) + 2 - 2 := by omega
  go_upto_region 5 with fail
  go_cut [8, 9] (fun s8 s9 wx => ∃ G1 G2 : Nat, s8 = .pointer (some ⟨G1, 0, none⟩) ∧ s9 = .pointer (some ⟨G2, 0, none⟩) ∧ wx.cell? ⟨G1, 0, none⟩ = some (.int .u64 first) ∧ wx.cell? ⟨G2, 0, none⟩ = some (.int .u64 second) ∧ g1 < G1 ∧ g1 < G2 ∧ w2.grownBy wx none)
  case first =>
    go_region
    · go_wp2_with fail
      go_meet
      have hx := boxes2 w2 first second 38
      exact ⟨_, _, rfl, rfl, hx.1, hx.2.1, h12, by omega, hx.2.2⟩
    · go_wp2_with fail
      go_meet
      have hx := boxes2 w2 second first 38
      exact ⟨_, _, rfl, rfl, hx.2.1, hx.1, by omega, h12, hx.2.2⟩
  case rest =>
    obtain ⟨G1, G2, rfl, rfl, hG1, hG2, h1G, h2G, hg3⟩ := hcut
    replace hr1 := hr1.kept hg3 (by simp)
    replace hr2 := hr2.kept hg3 (by simp)
    replace hW := grown_trans hW hg3
    clear hc1 hc0 hg3 h12
    obtain ⟨Lq, hLq⟩ : ∃ Lq, Lq = n + 1 - (m + 2) := ⟨_, rfl⟩
    have hLqi : (n : Int) + 1 - ((m : Int) + 2) = (Lq : Int) := by omega
    have HLQ := hid hLq
    have hLq1 : Lq + (m + 2) = n + 1 := by omega
    clear hLq
    go_upto_region 8 with (at_make; refine wl_make _ rfl _ _ 59 rfl 38 .u64 8 Tryd.underlying59 (by kernel_rfl) _ _ _ _ rfl rfl Lq (by omega) (by omega) (by omega) (by omega) ?_; intro w3 hr3 hg3)
    clear hLqi
    obtain ⟨gq, hgq⟩ : ∃ g, g = wc.heap.size := ⟨_, rfl⟩
    rw [← hgq] at hr3 ⊢
    have h1q : g1 < gq := by rw [hgq]; exact hr2.lt
    have hG1q : G1 < gq := by rw [hgq]; exact World.block_lt_of_cell? _ _ hG1
    have hG2q : G2 < gq := by rw [hgq]; exact World.block_lt_of_cell? _ _ hG2
    replace hr1 := hr1.kept hg3 (by simp)
    replace hr2 := hr2.kept hg3 (by simp)
    replace hG1 := hg3.cell hG1 (by simp)
    replace hG2 := hg3.cell hG2 (by simp)
    replace hW := grown_trans hW hg3
    have hgw : w.heap.size ≤ gq := by omega
    have HK : Hid (KInv W64 n Lq (V W64 zs) (V W64 us * 2 ^ s) Lq ys (List.replicate Lq 0)) := hid (by
      have hk := KInv.start (W := W64) (n := n) (m := m + 2) (v := V W64 zs) (U := V W64 us) (S := 2 ^ s) (cu := ys) (by decide) (by omega) hmn HY.out.1 HY.out.2.2 HY.out.2.1 (by rw [← h.len]; exact hu.lt) HNT.out.2.2.2 (Nat.pow_pos (by omega))
      rw [← HLQ.out] at hk
      exact hk)
    clear hgq hg3
    go_wp2_with fail
    go_loopw [11] (fun i wr => ∃ (k : Nat) (cu cq : List Nat), k ≤ Lq ∧ i = .int .i64 ((k : Int) - 1) ∧ IRow wr g0 38 .u64 cu ∧ IRow wr gq 38 .u64 cq ∧ IRow wr g1 38 .u64 zs ∧ wr.cell? ⟨G1, 0, none⟩ = some (.int .u64 first) ∧ wr.cell? ⟨G2, 0, none⟩ = some (.int .u64 second) ∧
        w.grownBy wr none ∧ Hid (KInv W64 n Lq (V W64 zs) (V W64 us * 2 ^ s) k cu cq)) (fun i _ => (intOf i + 1).toNat)
    case atStart => exact ⟨Lq, ys, _, Nat.le_refl _, rfl, hr1, hr3, hr2, hG1, hG2, hW, HK⟩
    case round =>
      clear hr1 hr2 hr3 hG1 hG2 hW HK
      obtain ⟨k', cu, cq, hk', rfl, hr1, hrq, hr2, hG1, hG2, hW, HK⟩ := hrel
      by_cases h0 : 0 < k'
      · obtain ⟨i, rfl⟩ : ∃ i, k' = i + 1 := ⟨k' - 1, by omega⟩
        have hlu := HK.out.lu
        have hlq := HK.out.lq
        have hit : i + (m + 2) < cu.length := by omega
        have him : i + (m + 1) < cu.length := by omega
        have hil : i + m < cu.length := by omega
        have hct := hr1.cell _ hit
        have hcm := hr1.cell _ him
        have hcl := hr1.cell _ hil
        obtain ⟨top, ht⟩ : ∃ x, x = cu[i + (m + 2)] := ⟨_, rfl⟩
        obtain ⟨mid, hmd⟩ : ∃ x, x = cu[i + (m + 1)] := ⟨_, rfl⟩
        obtain ⟨low, hlw⟩ : ∃ x, x = cu[i + m] := ⟨_, rfl⟩
        rw [← ht] at hct
        rw [← hmd] at hcm
        rw [← hlw] at hcl
        have hdu := HK.out.du
        have htb' : top < W64 := by rw [ht]; exact hdu.get _ hit
        have hmb : mid < W64 := by rw [hmd]; exact hdu.get _ him
        have hlb : low < W64 := by rw [hlw]; exact hdu.get _ hil
        have hi0 : (0 : Int) ≤ (i : Int) := by omega
        have hi1 : (i : Int) + ((m : Int) + 2) < (n : Int) + 1 := by omega
        have hck : ¬ (n + 1 = i) := by omega
        have HTT := hid (And.intro ht (And.intro hmd hlw))

        clear ht hmd hlw hdu hlu hlq
        have HD : ∀ q, Hid (Calls Tryd.prog 83 #[.int .u64 top, .int .u64 mid, .int .u64 low, .pointer (some ⟨G1, 0, none⟩), .pointer (some ⟨G2, 0, none⟩)] (wr.drewN q) fun e w' => e = .returned (.int .u64 (dgt first second top mid low : Nat)) ∧ ∃ n, w' = (wr.drewN q).drewN n) := fun q =>
          hid (digit_q top mid low first second htb' hmb hlb hfb hsb ⟨G1, 0, none⟩ ⟨G2, 0, none⟩ (wr.drewN q) hG1 hG2)
        have HDD := hid HD
        clear HD
        have hlen : i + (m + 2) - i = m + 2 := by omega
        go_wp2_with fail
        go_quiet ((go_at_call 83; exact Calls.quiet_of (HDD.out _).out))
        clear HDD hct hcm hcl
        obtain ⟨dd, hdd⟩ : ∃ x, x = dgt first second top mid low := ⟨_, rfl⟩
        rw [← hdd]
        have hest := HK.out.digit (by decide) HNT.out.1 HZ.out.2.2 HZ.out.1 rfl HNT.out.2.2.1 HF.out HS.out HNT.out.2.1 hit (d := dd) (by rw [hdd, ← HTT.out.1, ← HTT.out.2.1, ← HTT.out.2.2]; rfl)
        have hdb : dd < W64 := hest.1
        have HEST := hid hest
        clear hdd hest
        have hzd : Dg W64 (zs.take (m + 2)) := HZ.out.2.2.take _
        have hrd := IRow.rd (w := wr.drewN nq) hr2 0 (m + 2) (m + 2 + 1) (by rw [HZ.out.1]; omega) (by omega) (by omega)
        rw [List.drop_zero] at hrd
        have hiq : i < Lq := by omega
        have hcuL : cu.length = n + 1 := HK.out.lu
        have HCU := hid hcuL
        go_wp2_with fail
        refine (subProduct_any g0 i _ cu (zs.take (m + 2)) _ (m + 2) _ dd (wr.drewN nq) hr1 hrd (by intro p hp; cases hp; simp; omega) (by omega) (by omega) HK.out.du hzd hdb).mono ?_
        clear hcuL
        rintro e w4 ⟨bor, cu1, rfl, hbor, hr1a, hg4, HC1⟩
        have hW4 : w.grownBy w4 none := grown_new (gdN hW nq) hg4 (fun g' e' => by cases e'; exact h0w)
        have hrq4 := IRow.kept (w := wr.drewN nq) hrq hg4 (by simp; omega)
        have hr24 := IRow.kept (w := wr.drewN nq) hr2 hg4 (by simp; omega)
        have hG14 := hg4.cell (a := ⟨G1, 0, none⟩) hG1 (by simp; omega)
        have hG24 := hg4.cell (a := ⟨G2, 0, none⟩) hG2 (by simp; omega)
        clear hr1 hrq hr2 hG1 hG2 hW hg4 hrd
        by_cases hlt : top < bor
        · have hlt' : (top : Int) < (bor : Int) := by omega
          have hrd := hr24.rd 0 (m + 2) (m + 2 + 1) (by rw [HZ.out.1]; omega) (by omega) (by omega)
          rw [List.drop_zero] at hrd
          have hcu1 : cu1.length = n + 1 := by rw [HC1.out.1]; exact HCU.out
          go_wp2_with fail
          refine (addWords_any g0 i _ cu1 (zs.take (m + 2)) _ (m + 2) _ w4 hr1a hrd (by intro p hp; cases hp; simp; omega) (by omega) (by omega) HC1.out.2.1 hzd).mono ?_
          rintro e w5 ⟨cy, cu2, rfl, hr1b, hg5, HC2⟩
          have hW5 : w.grownBy w5 none := grown_new hW4 hg5 (fun g' e' => by cases e'; exact h0w)
          have hrq5 := hrq4.kept hg5 (by simp; omega)
          have hr25 := hr24.kept hg5 (by simp; omega)
          have hG15 := hg5.cell hG14 (by simp; omega)
          have hG25 := hg5.cell hG24 (by simp; omega)
          clear hr1a hrq4 hr24 hG14 hG24 hW4 hg5 hrd
          have hless := hid (HK.out.less (by decide) (Nat.le_of_lt HNT.out.1) (by omega) (by omega) hiq HC1.out.1 HC1.out.2.1 (by have := HC1.out.2.2.1; rw [HNT.out.2.2.1] at this; exact this) HC1.out.2.2.2 hit (by rw [← HTT.out.1]; exact hlt) hdb HEST.out.2.2
            HC2.out.1 HC2.out.2.1 (by have := HC2.out.2.2.1; rw [HNT.out.2.2.1] at this; exact this) HC2.out.2.2.2)
          have hcu2 : cu2.length = n + 1 := by rw [HC2.out.1]; exact hcu1
          have hi2 : i + (m + 2) < cu2.length := by omega
          have hcc := hr1b.cell _ hi2
          have hff := hr1b.free (i + (m + 2))
          have hlq := HK.out.lq
          have hcq := hrq5.cell i (by omega)
          have hfq := hrq5.free i
          obtain ⟨x1, hx1⟩ : ∃ x, x = cu2[i + (m + 2)] := ⟨_, rfl⟩
          obtain ⟨x2, hx2⟩ : ∃ x, x = cq[i]'(by omega) := ⟨_, rfl⟩
          rw [← hx1] at hcc
          rw [← hx2] at hcq
          obtain ⟨d2, hd2⟩ : ∃ x, x = dd - 1 := ⟨_, rfl⟩
          have hde : IntKind.u64.wrap ((dd : Int) - 1) = (d2 : Int) := by rw [IntKind.wrap_u64]; have := hless.out.1; unfold W64 at hdb; omega
          rw [← hd2] at hless
          have hqi : (i : Int) < (Lq : Int) := by omega
          have hne : gq ≠ g0 := by omega
          clear hx1 hx2 hd2 hlq hcu2 hcu1
          go_wp2
          have s1 := IRow.setv hr1b (i + (m + 2)) 0 0 rfl
          have s2 := IRow.kept hrq5 (grown_setCell w5 ⟨g0, i + (m + 2), none⟩ (.int .u64 0)) (by simp; omega)
          have s3 := IRow.setv s2 i (d2 : Int) d2 rfl
          refine ⟨⟨i, cu2.set (i + (m + 2)) 0, cq.set i d2, by omega, by congr 1, s1.kept (grown_setCell _ _ _) (by simp; omega), s3, ?_, ?_, ?_, ?_, hid hless.out.2⟩, by simp [intOf]⟩
          · exact (hr25.kept (grown_setCell _ _ _) (by simp; omega)).kept (grown_setCell _ _ _) (by simp; omega)
          · exact (grown_setCell _ _ _).cell ((grown_setCell _ _ _).cell hG15 (by simp; omega)) (by simp; omega)
          · exact (grown_setCell _ _ _).cell ((grown_setCell _ _ _).cell hG25 (by simp; omega)) (by simp; omega)
          · exact grown_new (grown_new hW5 (grown_setCell _ _ _) (fun g' e' => by cases e'; exact h0w)) (grown_setCell _ _ _) (fun g' e' => by cases e'; exact hgw)
        · have hlt' : ¬ (top : Int) < (bor : Int) := by omega
          have hcu1 : cu1.length = n + 1 := by rw [HC1.out.1]; exact HCU.out
          have hright := hid (HK.out.right (by decide) (Nat.le_of_lt HNT.out.1) (by omega) (by omega) hiq HC1.out.1 HC1.out.2.1 (by have := HC1.out.2.2.1; rw [HNT.out.2.2.1] at this; exact this) HC1.out.2.2.2 hit (by rw [← HTT.out.1]; omega) hdb HEST.out.2.1)
          have hi2 : i + (m + 2) < cu1.length := by omega
          have hcc := hr1a.cell _ hi2
          have hff := hr1a.free (i + (m + 2))
          have hlq := HK.out.lq
          have hcq := hrq4.cell i (by omega)
          have hfq := hrq4.free i
          obtain ⟨x1, hx1⟩ : ∃ x, x = cu1[i + (m + 2)] := ⟨_, rfl⟩
          obtain ⟨x2, hx2⟩ : ∃ x, x = cq[i]'(by omega) := ⟨_, rfl⟩
          rw [← hx1] at hcc
          rw [← hx2] at hcq
          have hqi : (i : Int) < (Lq : Int) := by omega
          have hne : gq ≠ g0 := by omega
          clear hx1 hx2 hlq hcu1
          go_wp2
          have s1 := IRow.setv hr1a (i + (m + 2)) 0 0 rfl
          have s2 := IRow.kept hrq4 (grown_setCell w4 ⟨g0, i + (m + 2), none⟩ (.int .u64 0)) (by simp; omega)
          have s3 := IRow.setv s2 i (dd : Int) dd rfl
          refine ⟨⟨i, cu1.set (i + (m + 2)) 0, cq.set i dd, by omega, by congr 1, s1.kept (grown_setCell _ _ _) (by simp; omega), s3, ?_, ?_, ?_, ?_, hid hright.out⟩, by simp [intOf]⟩
          · exact (hr24.kept (grown_setCell _ _ _) (by simp; omega)).kept (grown_setCell _ _ _) (by simp; omega)
          · exact (grown_setCell _ _ _).cell ((grown_setCell _ _ _).cell hG14 (by simp; omega)) (by simp; omega)
          · exact (grown_setCell _ _ _).cell ((grown_setCell _ _ _).cell hG24 (by simp; omega)) (by simp; omega)
          · exact grown_new (grown_new hW4 (grown_setCell _ _ _) (fun g' e' => by cases e'; exact h0w)) (grown_setCell _ _ _) (fun g' e' => by cases e'; exact hgw)
      · obtain rfl : k' = 0 := by omega
        have hcuL : cu.length = n + 1 := HK.out.lu
        have hrd := hr1.rd0 (by omega)
        rw [hcuL] at hrd
        have hcqL : cq.length = Lq := HK.out.lq
        have hrdq := hrq.rd0 (by omega)
        rw [hcqL] at hrdq
        have HDU := hid HK.out.du
        go_wp2_with fail
        refine (shiftDown_any _ (n + 1) (n + 1) s cu _ hrd HDU.out hs (by omega)).mono ?_
        clear hcuL hcqL
        rintro e w4 ⟨rs, rfl, hr4, HR, hg4⟩
        have hres := HK.out.done
        have hqd := HK.out.dq
        have hfin := div_shift (V W64 us) (V W64 vs) (2 ^ s) (Nat.pow_pos (by omega))
        rw [HZ.out.2.1, hfin.1] at hres
        have e2 : V W64 rs = V W64 us % V W64 vs := by rw [HR.out.2.1, hres.2, hfin.2]
        have hrd4 := hr4.rd0 (by rw [HR.out.1]; omega)
        rw [HR.out.1] at hrd4
        have HFIN := hid (And.intro hqd (And.intro HR.out.2.2 (And.intro hres.1 (And.intro e2 HR.out.1))))
        clear hres hqd hfin e2
        go_wp2
        go_ret2
        exact ⟨_, _, Lq, n + 1, cq, rs, rfl, hrdq.keep hg4, hrd4, by omega, by omega, HFIN, grown_trans hW hg4⟩
theorem divide_any (a b : Option Addr) (n m c d : Nat) (us vs : List Nat) (w : World) (h : IRd w .u64 a n c us) (k : IRd w .u64 b (m + 2) d vs) (hu : Dg W64 us) (hv : Dg W64 vs) (hmn : m + 2 ≤ n) (hn : n ≤ 800000) (hm : m + 2 ≤ 800000)
    (htop : ∀ t, vs[m + 1]? = some t → 0 < t) :
    Calls Tryd.prog 69 #[.slice a n c, .slice b (m + 2 : Nat) d] w fun e w' => ∃ (a1 a2 : Option Addr) (n1 n2 : Nat) (qs rs : List Nat), e = .returned (.tuple #[.slice a1 n1 n1, .slice a2 n2 n2]) ∧
      IRd w' .u64 a1 n1 n1 qs ∧ IRd w' .u64 a2 n2 n2 rs ∧ n1 ≤ 900000 ∧ n2 ≤ 900000 ∧ Hid (Dg W64 qs ∧ Dg W64 rs ∧ V W64 qs = V W64 us / V W64 vs ∧ V W64 rs = V W64 us % V W64 vs) ∧ w.grownBy w' none :=
  (divide_len a b n m c d us vs w h k hu hv hmn hn hm htop).mono fun _ _ ⟨a1, a2, n1, n2, qs, rs, h1, h2, h3, h4, h5, h6, h7⟩ => ⟨a1, a2, n1, n2, qs, rs, h1, h2, h3, h4, h5, hid ⟨h6.out.1, h6.out.2.1, h6.out.2.2.1, h6.out.2.2.2.1⟩, h7⟩
end Go.Proofs.YthkgldpcgmnaiaaDoor

set_option linter.unusedVariables false
set_option linter.unusedSimpArgs false
namespace Go.Proofs.YthkgldpcgmnaiaaDoor
open Go.RowKit Nm

theorem IsC.len_le {w : World} {p : Option Addr} {n c N k : Nat} (h : IsC w p n c N) (hN : N < 65536 ^ k) : n ≤ k := by rw [← h.len]; exact dg_length_le (by omega) hN

theorem natDivMod_zero (a b : Option Addr) (n m c d : Nat) (xs ys : List Nat) (w : World) (h : IRd w .u16 a n c xs) (k : IRd w .u16 b m d ys) (hy : Dg 65536 ys) (h0 : V 65536 ys = 0) :
    Calls Tryd.prog 47 #[.slice a n c, .slice b m d] w fun e w' => e = .returned (.tuple #[.slice none 0 0, .slice none 0 0, .int .i64 3]) ∧ w = w' := by
  have R1 := hid (trim16 a n c xs w h)
  have R2 := hid (trim16 b m d ys w k)
  have hl : (trimR ys).length = 0 := by
    rw [trimR_dg (by omega) hy, h0]; rfl
  rw [hl] at R2
  clear hl h0
  generalize (trimR xs).length = lx at *
  go_enter Tryd.func47, Tryd.ntmps47
  go_wp2_with (first
    | (go_at_call 61; (with_reducible refine (R1.out).mono ?_); rintro e w' ⟨rfl, rfl⟩)
    | (go_at_call 61; (with_reducible refine (R2.out).mono ?_); rintro e w' ⟨rfl, rfl⟩))
  go_ret3
  exact ⟨rfl, rfl⟩

theorem len_words {ys : List Nat} (h : Nm.Can 65536 ys) (hl : 4 < ys.length) (vs : List Nat) (hv : Dg W64 vs) (m : Nat) (hm : m + 2 = (ys.length + 3) / 4) (lv : vs.length = m + 2) (e : V W64 vs = V 65536 ys) :
    ∀ t, vs[m + 1]? = some t → 0 < t := by
  intro t ht
  rcases Nat.eq_zero_or_pos t with h0 | h0
  · exfalso
    subst h0
    have hvl : m + 1 < vs.length := by omega
    rw [List.getElem?_eq_getElem hvl] at ht
    have a1 := V_take_drop (B := W64) vs (m + 1) (by omega)
    have a2 := V_drop_succ (B := W64) vs (m + 1) hvl
    rw [show vs.drop (m + 1 + 1) = [] from List.drop_of_length_le (by omega), Option.some.inj ht] at a2
    simp only [V_nil, Nat.mul_zero, Nat.add_zero] at a2
    rw [a2, Nat.mul_zero, Nat.add_zero] at a1
    have a3 := (hv.take (m + 1)).lt
    rw [List.length_take, Nat.min_eq_left (by omega), ← a1, e, W64_eq, ← Nat.pow_mul] at a3
    have a4 := h.low (by omega) (by intro e; subst e; simp at hl)
    have a5 : 65536 ^ (4 * (m + 1)) ≤ 65536 ^ (ys.length - 1) := Nat.pow_le_pow_right (by omega) (by omega)
    omega
  · exact h0

set_option maxHeartbeats 2000000 in
theorem natDivMod_any (a b : Option Addr) (n m c d : Nat) (xs ys : List Nat) (w : World) (h : IRd w .u16 a n c xs) (k : IRd w .u16 b m d ys) (hx : Dg 65536 xs) (hy : Dg 65536 ys) (hn : n ≤ 800000) (hm : m ≤ 800000) (hpos : 0 < V 65536 ys) :
    Calls Tryd.prog 47 #[.slice a n c, .slice b m d] w (DmPost w (V 65536 xs) (V 65536 ys)) := by
  by_cases hsm : (trimR xs).length ≤ 4 ∧ (trimR ys).length ≤ (trimR xs).length
  · exact natDivMod_small a b n m c d xs ys w h k hx hy hsm.1 hsm.2 hpos
  have ht := h.take (trimR xs).length (by rw [← h.len]; exact trimR_length_le xs)
  have kt := k.take (trimR ys).length (by rw [← k.len]; exact trimR_length_le ys)
  rw [← trimR_eq_take] at ht kt
  have hcx := Can_trimR hx
  have hcy := Can_trimR hy
  have hvx := V_trimR (B := 65536) xs
  have hvy := V_trimR (B := 65536) ys
  have hnl : (trimR xs).length ≤ n := by rw [← h.len]; exact trimR_length_le xs
  have hml : (trimR ys).length ≤ m := by rw [← k.len]; exact trimR_length_le ys
  have R1 := hid (trim16 a n c xs w h)
  have R2 := hid (trim16 b m d ys w k)
  have hcap := ht.cap
  have kcap := kt.cap
  have hmax := ht.max
  have kmax := kt.max
  rw [← hvy] at hpos ⊢
  rw [← hvx]
  generalize trimR xs = us at *
  generalize trimR ys = vs at *
  clear hvx hvy h k
  have hv0 : 0 < vs.length := by
    rcases Nat.eq_zero_or_pos vs.length with h0 | h0
    · rw [List.eq_nil_of_length_eq_zero h0] at hpos; simp at hpos
    · exact h0
  have e1 : (((vs.length : Int) == 0) = false) := beq_eq_false_iff_ne.2 (by omega)
  by_cases hlt : us.length < vs.length
  · have e2 : ((us.length : Int) < (vs.length : Int)) := by omega
    have hval := Nm.Can.lt_of_length (B := 65536) (by omega) hcx.1 hcy hlt
    have hq : V 65536 us / V 65536 vs = 0 := Nat.div_eq_of_lt hval
    have hr : V 65536 us % V 65536 vs = V 65536 us := Nat.mod_eq_of_lt hval
    have HU := hid (eq_dg (by omega) hcx)
    have HPOST : Hid (∀ p cc W, IRd W .u16 p us.length cc us → w.grownBy W none → DmPost w (V 65536 us) (V 65536 vs) (.returned (.tuple #[.slice none 0 0, .slice p us.length cc, .int .i64 0])) W) := hid (fun p cc W h1 h2 => by
      have hl : (dg 65536 (V 65536 us)).length = us.length := by rw [← HU.out]
      refine ⟨none, p, 0, cc, ?_, ?_, ?_, h2⟩
      · rw [hq, hr, hl]; rfl
      · rw [hq]; exact IRd.nil _ _
      · rw [hr, ← HU.out]; exact h1)
    clear hval hq hr
    go_enter Tryd.func47, Tryd.ntmps47
    go_wp2_with (first
      | (go_at_call 61; (with_reducible refine (R1.out).mono ?_); rintro e w' ⟨rfl, rfl⟩)
      | (go_at_call 61; (with_reducible refine (R2.out).mono ?_); rintro e w' ⟨rfl, rfl⟩)
      | (go_at_call 63; refine (clone_any _ _ _ us _ ht (by omega)).mono ?_; rintro e w2 ⟨rfl, hr2, hg2⟩))
    go_ret3
    exact HPOST.out _ _ _ (hr2.rd0 (by omega)) hg2
  · have e2 : ¬ ((us.length : Int) < (vs.length : Int)) := by omega
    have e3 : ¬ ((us.length : Int) ≤ 4) := by omega
    by_cases h4 : vs.length ≤ 4
    · have e4 : ((vs.length : Int) ≤ 4) := by omega
      have hyb : V 65536 vs < W64 := by rw [W64_eq]; exact V_word hcy.1 4 h4
      have HP := hid (pack_any a us.length c us w ht hcx.1 (by omega))
      go_enter Tryd.func47, Tryd.ntmps47
      go_wp2_with (first
        | (go_at_call 61; (with_reducible refine (R1.out).mono ?_); rintro e w' ⟨rfl, rfl⟩)
        | (go_at_call 61; (with_reducible refine (R2.out).mono ?_); rintro e w' ⟨rfl, rfl⟩))
      refine HP.out.mono ?_
      rintro e w1 ⟨L, zs, rfl, hr1, HZ, hg1⟩
      have HW := hid (word_any b vs.length d vs w1 (kt.keep hg1) hcy.1 h4)
      have hLz : zs.length = L := HZ.out.2.1
      have hLb : L ≤ 200001 := by have := HZ.out.1; omega
      have HD := hid (divW_any w.heap.size L L zs (V 65536 vs) w1 hr1 (by omega) (Nat.le_refl _) (by omega) (by omega) HZ.out.2.2.2 hpos hyb)
      have HLz := hid hLz
      clear hLz
      generalize hyv : V 65536 vs = Y at *
      have HY := hid hyv
      clear hyv
      go_wp2_with (first
        | (go_at_call 65; (with_reducible refine (HW.out).mono ?_); rintro e w' ⟨rfl, rfl⟩)
        | (go_at_call 66; (with_reducible refine (HD.out).mono ?_); rintro e w2 ⟨cu, rfl, hr2, hg2, HC⟩))
      have hcl : cu.length = L := by rw [HC.out.1, HLz.out]
      have hrd := hr2.rd0 (by omega)
      rw [hcl] at hrd
      have hq0 : V W64 cu = V 65536 us / Y := by
        have h1 := HC.out.2.2.1
        rw [List.take_of_length_le (by omega), List.take_of_length_le (by rw [HLz.out]; exact Nat.le_refl _), HZ.out.2.2.1] at h1
        exact h1
      have hr0 : V W64 (List.take L zs) = V 65536 us := by rw [List.take_of_length_le (by rw [HLz.out]; exact Nat.le_refl _), HZ.out.2.2.1]
      have hrb : V 65536 us % Y < W64 := Nat.lt_trans (Nat.mod_lt _ hpos) hyb
      have HU := hid (unpack_any _ L L cu _ hrd HC.out.2.1 (by omega))
      rw [hq0] at HU
      rw [hr0]
      have hgw : w.grownBy w2 none := grown_new hg1 hg2 (fun g' e' => by cases e'; exact Nat.le_refl _)
      clear hcl hrd hq0 hr0 hg1 hg2 hr1 hr2 HD HW HP
      generalize hqq : V 65536 us / Y = QQ at *
      generalize hrr : V 65536 us % Y = RR at *
      have HQQ := hid hqq
      have HRR := hid hrr
      clear hqq hrr
      have HPOST : Hid (∀ p1 c1 p2 c2 W, IRd W .u16 p1 (dg 65536 QQ).length c1 (dg 65536 QQ) → IRd W .u16 p2 (dg 65536 RR).length c2 (dg 65536 RR) → w.grownBy W none → DmPost w (V 65536 us) Y (.returned (.tuple #[.slice p1 (dg 65536 QQ).length c1, .slice p2 (dg 65536 RR).length c2, .int .i64 0])) W) := hid (fun p1 c1 p2 c2 W g1 g2 g3 => by
        refine ⟨p1, p2, c1, c2, ?_, ?_, ?_, g3⟩
        · rw [HQQ.out, HRR.out]
        · rw [HQQ.out]; exact g1
        · rw [HRR.out]; exact g2)
      refine HU.out.mono ?_
      rintro e w3 ⟨p1, c1, rfl, hr3, hg3⟩
      have HZI : Hid (((V 65536 us : Nat) : Int) % (Y : Int) = (RR : Int)) := hid (by rw [← HRR.out]; simp)
      go_wp2_with fail
      first
        | with_reducible refine (of_at _ RR HZI.out hrb _).mono ?_
        | with_reducible refine (of_at _ RR rfl hrb _).mono ?_
      rintro e w4 ⟨p2, c2, rfl, hr4, hg4⟩
      go_wp2_with fail
      go_ret3
      exact HPOST.out _ _ _ _ _ (hr3.keep hg4) hr4 (grown_trans hgw (grown_trans hg3 hg4))
    · have e4 : ¬ ((vs.length : Int) ≤ 4) := by omega
      have HP := hid (pack_any a us.length c us w ht hcx.1 (by omega))
      go_enter Tryd.func47, Tryd.ntmps47
      go_wp2_with (first
        | (go_at_call 61; (with_reducible refine (R1.out).mono ?_); rintro e w' ⟨rfl, rfl⟩)
        | (go_at_call 61; (with_reducible refine (R2.out).mono ?_); rintro e w' ⟨rfl, rfl⟩))
      refine HP.out.mono ?_
      rintro e w1 ⟨L, zs, rfl, hr1, HZ, hg1⟩
      go_wp2_with fail
      refine (pack_any b vs.length d vs w1 (kt.keep hg1) hcy.1 (by omega)).mono ?_
      rintro e w2 ⟨M', ws, rfl, hr2, HWS, hg2⟩
      obtain ⟨M, hM⟩ : ∃ M, M' = M + 2 := ⟨M' - 2, by have := HWS.out.1; omega⟩
      subst hM
      have hlz := HZ.out.2.1
      have hlw := HWS.out.2.1
      have hrd1 := (hr1.kept hg2 (by simp)).rd0 (by have := HZ.out.1; omega)
      have hrd2 := hr2.rd0 (by have := HWS.out.1; omega)
      rw [hlz] at hrd1
      rw [hlw] at hrd2
      have HDV := hid (divide_any _ _ L M L (M + 2) zs ws w2 hrd1 hrd2 HZ.out.2.2.2 HWS.out.2.2.2 (by have := HZ.out.1; have := HWS.out.1; omega) (by have := HZ.out.1; omega) (by have := HWS.out.1; omega)
        (len_words hcy (by omega) ws HWS.out.2.2.2 M HWS.out.1 hlw HWS.out.2.2.1))
      have hgw := grown_trans hg1 hg2
      have hVz := HZ.out.2.2.1
      have hVw := HWS.out.2.2.1
      rw [hVz, hVw] at HDV
      clear hlz hlw hrd1 hrd2 hr1 hr2 hg1 hg2 hVz hVw HP
      go_wp2_with fail
      refine HDV.out.mono ?_
      rintro e w3 ⟨a1, a2, n1, n2, qs, rs, rfl, hq3, hr3, hn1, hn2, HF, hg3⟩
      generalize hqq : V 65536 us / V 65536 vs = QQ at *
      generalize hrr : V 65536 us % V 65536 vs = RR at *
      have HQQ := hid hqq
      have HRR := hid hrr
      clear hqq hrr
      have HPOST : Hid (∀ p1 c1 p2 c2 W, IRd W .u16 p1 (dg 65536 QQ).length c1 (dg 65536 QQ) → IRd W .u16 p2 (dg 65536 RR).length c2 (dg 65536 RR) → w.grownBy W none → DmPost w (V 65536 us) (V 65536 vs) (.returned (.tuple #[.slice p1 (dg 65536 QQ).length c1, .slice p2 (dg 65536 RR).length c2, .int .i64 0])) W) := hid (fun p1 c1 p2 c2 W g1 g2 g3 => by
        refine ⟨p1, p2, c1, c2, ?_, ?_, ?_, g3⟩
        · rw [HQQ.out, HRR.out]
        · rw [HQQ.out]; exact g1
        · rw [HRR.out]; exact g2)
      have hU1 := unpack_any _ n1 n1 qs _ hq3 HF.out.1 (by omega)
      rw [HF.out.2.2.1] at hU1
      have HU1 := hid hU1
      have hU2 := fun w4 (hg4 : w3.grownBy w4 none) => unpack_any _ n2 n2 rs _ (hr3.keep hg4) HF.out.2.1 (by omega)
      rw [HF.out.2.2.2] at hU2
      have HU2 := hid hU2
      clear hU1 hU2 HDV
      go_wp2_with fail
      refine HU1.out.mono ?_
      rintro e w4 ⟨p1, c1, rfl, hr4, hg4⟩
      go_wp2_with fail
      refine (HU2.out _ hg4).mono ?_
      rintro e w5 ⟨p2, c2, rfl, hr5, hg5⟩
      go_wp2_with fail
      go_ret3
      exact HPOST.out _ _ _ _ _ (hr4.keep hg5) hr5 (grown_trans hgw (grown_trans hg3 (grown_trans hg4 hg5)))

section
variable {w w' : World} {p q : Option Addr} {n c m d N M : Nat}
theorem natDivMod_n (hA : IsN w p n c N) (hB : IsN w q m d M) (hn : n ≤ 800000) (hm : m ≤ 800000) (hpos : 0 < M) :
    Calls Tryd.prog 47 #[.slice p n c, .slice q m d] w fun e w' => ∃ (p1 : Option Addr) (n1 c1 : Nat) (p2 : Option Addr) (n2 c2 : Nat), e = .returned (.tuple #[.slice p1 n1 c1, .slice p2 n2 c2, .int .i64 0]) ∧
      IsC w' p1 n1 c1 (N / M) ∧ IsC w' p2 n2 c2 (N % M) ∧ n1 ≤ n ∧ n2 ≤ n ∧ n2 ≤ m ∧ w.grownBy w' none := by
  have lA := hA.lt
  have lB := hB.lt
  obtain ⟨L, h1, h2, rfl⟩ := hA
  obtain ⟨K, k1, k2, rfl⟩ := hB
  refine (natDivMod_any p q n m c d L K w h1 k1 h2 k2 hn hm hpos).mono fun e w' ⟨a1, a2, c1, c2, he, g1, g2, hg⟩ => ⟨a1, _, c1, a2, _, c2, he, g1, g2, ?_, ?_, ?_, hg⟩
  · exact dg_length_le (by omega) (Nat.lt_of_le_of_lt (Nat.div_le_self _ _) lA)
  · exact dg_length_le (by omega) (Nat.lt_of_le_of_lt (Nat.mod_le _ _) lA)
  · exact dg_length_le (by omega) (Nat.lt_trans (Nat.mod_lt _ hpos) lB)

theorem natDivMod_e (hA : IsN w p n c N) (hB : IsN w q m d 0) :
    Calls Tryd.prog 47 #[.slice p n c, .slice q m d] w fun e w' => e = .returned (.tuple #[.slice none 0 0, .slice none 0 0, .int .i64 3]) ∧ w.grownBy w' none := by
  obtain ⟨L, h1, h2, _⟩ := hA
  obtain ⟨K, k1, k2, k3⟩ := hB
  exact (natDivMod_zero p q n m c d L K w h1 k1 k2 k3).mono fun e w' ⟨he, hw⟩ => ⟨he, hw ▸ grown_refl _ _⟩
end
end Go.Proofs.YthkgldpcgmnaiaaDoor

set_option linter.unusedVariables false
set_option linter.unusedSimpArgs false
namespace Go.Proofs.YthkgldpcgmnaiaaDoor
open Go.RowKit Nm

theorem refOf_c (x : Nat) (hx : x < W64) (w : World) : Calls Tryd.prog 15 #[.int .u64 x] w fun e w' => ∃ p n c, e = .returned (.slice p n c) ∧ IsC w' p n c x ∧ n ≤ 4 ∧ w.grownBy w' none :=
  (refOf_any x hx w).mono fun e w' ⟨p, c, he, hr, hg⟩ => ⟨p, _, c, he, hr, dg_length_le (by omega) (by rw [← W64_eq]; exact hx), hg⟩

set_option maxHeartbeats 1000000 in
theorem refDigit_n {w : World} {p q : Option Addr} {n c m d R B : Nat} (hR : IsN w p n c R) (hB : IsN w q m d B) (hm : m ≤ 1100000) (hpos : 0 < B) (hlt : R < 65536 * B) :
    Calls Tryd.prog 50 #[.slice p n c, .slice q m d] w fun e w' => e = .returned (.int .u64 (R / B : Nat)) ∧ w.grownBy w' none := by
  have hq : R / B ≤ 65535 := by
    have := Nat.div_lt_of_lt_mul (by rw [Nat.mul_comm] at hlt; exact hlt)
    omega
  obtain ⟨Q, hQ⟩ : ∃ Q, Q = R / B := ⟨_, rfl⟩
  have hcmp : ∀ k, k ≤ Q ↔ B * k ≤ R := fun k => by rw [hQ, Nat.le_div_iff_mul_le hpos, Nat.mul_comm]
  have HC := hid hcmp
  rw [← hQ] at hq ⊢
  clear hcmp hQ hlt
  go_enter Tryd.func50, Tryd.ntmps50
  go_wp2_with fail
  go_loopw [5, 6] (fun s5 s6 wr => ∃ lo hi : Nat, s5 = .int .u64 lo ∧ s6 = .int .u64 hi ∧ lo ≤ Q ∧ Q ≤ hi ∧ hi ≤ 65535 ∧ w.grownBy wr none) (fun s5 s6 _ => (intOf s6 - intOf s5).toNat)
  case atStart => exact ⟨0, 65535, rfl, rfl, by omega, hq, by omega, grown_refl _ _⟩
  case round =>
    obtain ⟨lo, hi, rfl, rfl, h1, h2, h3, hgr⟩ := hrel
    by_cases hlt : lo < hi
    · have hlt' : (lo : Int) < (hi : Int) := by omega
      obtain ⟨mid, hmid⟩ : ∃ mid, mid = (lo + hi + 1) / 2 := ⟨_, rfl⟩
      have e1 : ((lo : Int) + (hi : Int) + 1) / 2 = (mid : Int) := by omega
      have hm1 : lo < mid := by omega
      have hm2 : mid ≤ hi := by omega
      obtain ⟨mid1, hmid1⟩ : ∃ mid1, mid1 = mid - 1 := ⟨_, rfl⟩
      have e2 : (mid : Int) - 1 = (mid1 : Int) := by omega
      have hB' := hB.keep hgr
      have hR' := hR.keep hgr
      have HMM := hid (And.intro hmid hmid1)
      clear hmid hmid1
      go_wp2_with fail
      refine (refOf_c mid (by unfold W64; omega) _).mono ?_
      rintro e w1 ⟨p1, n1, c1, rfl, hO, hn1, hg1⟩
      go_wp2_with fail
      refine (refMul_n (hB'.keep hg1) hO.isN (by omega) (by omega)).mono ?_
      rintro e w2 ⟨p2, n2, c2, rfl, hM, hn2, hg2⟩
      go_wp2_with fail
      refine (refCmp_n hM.isN ((hR'.keep hg1).keep hg2)).mono ?_
      have hgw := grown_trans hgr (grown_trans hg1 hg2)
      by_cases hle : B * mid ≤ R
      · have hc : cmpI ((B * mid : Nat) : Int) (R : Int) = -1 ∨ cmpI ((B * mid : Nat) : Int) (R : Int) = 0 := by
          rcases Nat.lt_or_ge (B * mid) R with h | h
          · exact .inl (cmpI_lt h)
          · right; rw [show B * mid = R by omega, cmpI_eq]
        have hmq := (HC.out mid).2 hle
        rcases hc with hc | hc <;> rw [hc] <;> clear hc hle
        all_goals
          rintro e w3 ⟨rfl, rfl⟩
          go_wp2_with fail
          exact ⟨⟨mid, hi, rfl, rfl, hmq, h2, h3, hgw⟩, by simp [intOf]; omega⟩
      · have hc : cmpI ((B * mid : Nat) : Int) (R : Int) = 1 := cmpI_gt (by omega)
        have hmq : ¬ mid ≤ Q := fun h => hle ((HC.out mid).1 h)
        rw [hc]
        clear hc hle
        rintro e w3 ⟨rfl, rfl⟩
        go_wp2_with fail
        exact ⟨⟨lo, mid1, rfl, rfl, h1, by have := HMM.out.2; omega, by omega, hgw⟩, by simp [intOf]; omega⟩
    · obtain rfl : lo = Q := by omega
      go_wp2_with fail
      go_ret
      exact ⟨rfl, hgr⟩

/-- a new slice of one number, of the call's own -/
theorem one_own (w : World) (base : Nat) (e : TypeId) (k : IntKind) (v : Int) (y : Nat) (hv : v = (y : Int)) (hb : base ≤ w.heap.size) : IOwn (w.alloc (.cells #[.int k v] e)) base e k (some ⟨w.heap.size, 0, none⟩) 1 1 [y] := by
  subst hv
  exact IOwn.made w base e k [y] hb (by simp)

theorem cons_isN {w : World} {p : Option Addr} {n c x : Nat} {xs : List Nat} (h : IRd w .u16 p (1 + n) c ([x] ++ xs)) (hx : x < 65536) (hd : Dg 65536 xs) : IsN w p (1 + n) c (x + 65536 * V 65536 xs) :=
  ⟨_, h, Dg.cons hx hd, rfl⟩

theorem refDivMod_e {w : World} {p q : Option Addr} {n c m d N : Nat} (hA : IsN w p n c N) (hB : IsN w q m d 0) (hn : n ≤ 1100000) (hm : m ≤ 1100000) :
    Calls Tryd.prog 28 #[.slice p n c, .slice q m d] w fun e w' => e = .returned (.tuple #[.slice none 0 0, .slice none 0 0, .int .i64 3]) ∧ w.grownBy w' none := by
  go_enter Tryd.func28, Tryd.ntmps28
  go_wp2_with fail
  refine (refNorm_n hA (by omega)).mono ?_
  rintro e w1 ⟨p1, n1, c1, rfl, hA1, hn1, hg1⟩
  go_wp2_with fail
  refine (refNorm_n (hB.keep hg1) (by omega)).mono ?_
  rintro e w2 ⟨p2, n2, c2, rfl, hB2, hn2, hg2⟩
  have hz : n2 = 0 := by rw [← hB2.len]; rfl
  subst hz
  go_wp2_with fail
  go_ret3
  exact ⟨rfl, grown_trans hg1 hg2⟩

set_option maxHeartbeats 2000000 in
theorem refDivMod_n {w : World} {p q : Option Addr} {n c m d N M : Nat} (hA : IsN w p n c N) (hB : IsN w q m d M) (hn : n ≤ 1100000) (hm : m ≤ 1100000) (hpos : 0 < M) :
    Calls Tryd.prog 28 #[.slice p n c, .slice q m d] w fun e w' => ∃ (p1 : Option Addr) (n1 c1 : Nat) (p2 : Option Addr) (n2 c2 : Nat), e = .returned (.tuple #[.slice p1 n1 c1, .slice p2 n2 c2, .int .i64 0]) ∧
      IsC w' p1 n1 c1 (N / M) ∧ IsC w' p2 n2 c2 (N % M) ∧ n1 ≤ n ∧ n2 ≤ n ∧ w.grownBy w' none := by
  have HNL := hid hA.lt
  have HML := hid hB.lt
  go_enter Tryd.func28, Tryd.ntmps28
  go_wp2_with fail
  refine (refNorm_n hA (by omega)).mono ?_
  rintro e w1 ⟨p1, n1, c1, rfl, hA1, hn1, hg1⟩
  go_wp2_with fail
  refine (refNorm_n (hB.keep hg1) (by omega)).mono ?_
  rintro e w2 ⟨p2, n2, c2, rfl, hB2, hn2, hg2⟩
  replace hA1 := hA1.keep hg2
  have hgw := grown_trans hg1 hg2
  have hn20 : n2 ≠ 0 := by
    intro h0
    have := hB2.isN.lt
    rw [h0] at this; simp at this; omega
  have e0 : (((n2 : Int) == 0) = false) := beq_eq_false_iff_ne.2 (by omega)
  clear hg1 hg2 hA hB
  by_cases h4 : n1 ≤ 4 ∧ n2 ≤ 4
  · obtain ⟨h41, h42⟩ := h4
    have h41' : (n1 : Int) ≤ 4 := by omega
    have h42' : (n2 : Int) ≤ 4 := by omega
    have hNb : N < W64 := by rw [W64_eq]; exact Nat.lt_of_lt_of_le hA1.isN.lt (Nat.pow_le_pow_right (by omega) h41)
    have hMb : M < W64 := by rw [W64_eq]; exact Nat.lt_of_lt_of_le hB2.isN.lt (Nat.pow_le_pow_right (by omega) h42)
    have HS1 := fun W (h : IsC W p1 n1 c1 N) => refShort_any p1 n1 c1 _ W h (Can_dg (by omega) N).1 h41
    have HS2 := fun W (h : IsC W p2 n2 c2 M) => refShort_any p2 n2 c2 _ W h (Can_dg (by omega) M).1 h42
    simp only [V_dg (show 1 < 65536 by omega)] at HS1 HS2
    have HS1' := hid HS1
    have HS2' := hid HS2
    have hqb : N / M < W64 := Nat.lt_of_le_of_lt (Nat.div_le_self _ _) hNb
    have hrb : N % M < W64 := Nat.lt_of_le_of_lt (Nat.mod_le _ _) hNb
    obtain ⟨Q, hQ⟩ : ∃ Q, Q = N / M := ⟨_, rfl⟩
    obtain ⟨R, hR⟩ : ∃ R, R = N % M := ⟨_, rfl⟩
    have eq1 : IntKind.u64.wrap ((N : Int) / (M : Int)) = (Q : Int) := by rw [hQ, ← Int.natCast_ediv]; exact wrap_in _ hqb
    have eq2 : (N : Int) / (M : Int) = (Q : Int) := by rw [hQ]; simp
    have eq3 : (N : Int) % (M : Int) = (R : Int) := by rw [hR]; simp
    have eq4 : (N : Int).tmod (M : Int) = (R : Int) := by rw [hR]; rfl
    rw [← hQ] at hqb
    rw [← hR] at hrb
    have HQR := hid (And.intro hQ hR)
    have eq5 : IntKind.u64.wrap (Q : Int) = (Q : Int) := wrap_in _ hqb
    have eq6 : IntKind.u64.wrap (R : Int) = (R : Int) := wrap_in _ hrb
    have hQN : Q ≤ N := by rw [hQ]; exact Nat.div_le_self _ _
    have hRN : R ≤ N := by rw [hR]; exact Nat.mod_le _ _
    have HQN := hid (And.intro hQN hRN)
    have hM1 : (1 : Int) ≤ (M : Int) := by omega
    have hN0 : (0 : Int) ≤ (N : Int) := by omega
    clear hQ hR HS1 HS2 hQN hRN
    go_wp2_with fail
    refine (HS1'.out _ hA1).mono ?_
    rintro e w' ⟨rfl, rfl⟩
    go_wp2_with fail
    refine (HS2'.out _ hB2).mono ?_
    rintro e w' ⟨rfl, rfl⟩
    go_wp2_with fail
    refine (refOf_c Q hqb _).mono ?_
    rintro e w3 ⟨p3, n3, c3, rfl, hq3, hn3, hg3⟩
    replace hA1 := hA1.keep hg3
    replace hB2 := hB2.keep hg3
    go_wp2_with fail
    refine (HS1'.out _ hA1).mono ?_
    rintro e w' ⟨rfl, rfl⟩
    go_wp2_with fail
    refine (HS2'.out _ hB2).mono ?_
    rintro e w' ⟨rfl, rfl⟩
    go_wp2_with fail
    refine (refOf_c R hrb _).mono ?_
    rintro e w4 ⟨p4, n4, c4, rfl, hq4, hn4, hg4⟩
    go_wp2_with fail
    go_ret3
    exact ⟨p3, n3, c3, p4, n4, c4, rfl, (hq3.keep hg4).congr HQR.out.1, hq4.congr HQR.out.2, hq3.len_le (Nat.lt_of_le_of_lt HQN.out.1 HNL.out), hq4.len_le (Nat.lt_of_le_of_lt HQN.out.2 HNL.out), grown_trans hgw (grown_trans hg3 hg4)⟩
  · have hguard : (¬ ((n1 : Int) ≤ 4)) ∨ ((n1 : Int) ≤ 4 ∧ ¬ ((n2 : Int) ≤ 4)) := by omega
    clear h4
    have hAc := hA1
    obtain ⟨us, hus⟩ : ∃ us, us = dg 65536 N := ⟨_, rfl⟩
    have hcx : Nm.Can 65536 us := by rw [hus]; exact Can_dg (by omega) N
    have hVu : V 65536 us = N := by rw [hus]; exact V_dg (by omega) N
    have ht : IRd w2 .u16 p1 n1 c1 us := by rw [hus]; exact hA1
    have hul : us.length = n1 := ht.len
    have hcap := ht.cap
    have hmax := ht.max
    have HVU := hid hVu
    have HUL := hid hul
    clear hus hAc hVu hul
    have Hstart : Hid (V 65536 (us.drop n1) = 0) := hid (by rw [List.drop_of_length_le (by rw [HUL.out]; exact Nat.le_refl _)]; rfl)
    rcases hguard with hg | ⟨hg, hg'⟩
    all_goals
      go_wp2_with fail
      go_loopw [7, 8, 9] (fun s7 s8 s9 wr => ∃ (k : Nat) (pq : Option Addr) (nq cq : Nat) (qs : List Nat) (pr : Option Addr) (nr cr : Nat), k ≤ n1 ∧ s9 = .int .i64 ((k : Int) - 1) ∧ s7 = .slice pq nq cq ∧ s8 = .slice pr nr cr ∧ nq + k = n1 ∧ IRd wr .u16 pq nq cq qs ∧
          IsC wr pr nr cr (V 65536 (us.drop k) % M) ∧ w2.grownBy wr none ∧ Hid (Dg 65536 qs ∧ V 65536 qs = V 65536 (us.drop k) / M)) (fun _ _ s9 _ => (intOf s9 + 1).toNat)
      case atStart => exact ⟨n1, none, 0, 0, [], none, 0, 0, Nat.le_refl _, rfl, rfl, rfl, by omega, IRd.nil _ _, (IsC.nil _).congr (by rw [Hstart.out]; simp), grown_refl _ _, hid ⟨Dg.nil, by rw [Hstart.out]; simp⟩⟩
      case round =>
        obtain ⟨k, pq, nq, cq, qs, pr, nr, cr, hk, rfl, rfl, rfl, hnk, hq, hr, hgr, HC⟩ := hrel
        by_cases h0 : 0 < k
        · obtain ⟨i, rfl⟩ : ∃ i, k = i + 1 := ⟨k - 1, by omega⟩
          have hil : i < us.length := by rw [HUL.out]; omega
          obtain ⟨b, o, rfl, hc1⟩ := ht.cel i hil
          have hc2 := hgr.cell hc1 (by simp)
          obtain ⟨x, hx⟩ : ∃ x, x = us[i] := ⟨_, rfl⟩
          rw [← hx] at hc2
          have hxb : x < 65536 := by rw [hx]; exact hcx.1.get i hil
          have hdk := V_drop_succ (B := 65536) us i hil
          rw [← hx] at hdk
          have hdd := div_down (W := 65536) (x := M) (y := x) (v := V 65536 (us.drop (i + 1))) (Q := V 65536 (us.drop (i + 1)) / M) hpos rfl
          have hrM : V 65536 (us.drop (i + 1)) % M < M := Nat.mod_lt _ hpos
          obtain ⟨rr, hrr⟩ : ∃ rr, rr = V 65536 (us.drop (i + 1)) % M := ⟨_, rfl⟩
          rw [← hrr] at hr hdd hrM
          have hnr : nr ≤ m := hr.len_le (Nat.lt_trans hrM HML.out)
          have hR' : x + 65536 * rr < 65536 * M := by
            have := Nat.mul_le_mul_left 65536 (show rr + 1 ≤ M from hrM)
            omega
          have HDD := hid (And.intro hdd hdk)
          have HRR := hid hrr
          have HR' := hid hR'
          have hBr := hB2.keep hgr
          have hi0 : (0 : Int) ≤ (i : Int) := by omega
          have hi1 : (i : Int) < (n1 : Int) := by omega
          have hrd : IRd wr .u16 pr nr cr (dg 65536 rr) := hr
          have hnrb : nr ≤ 1100000 := by omega
          have hnqb : nq ≤ 1100000 := by omega
          clear hc1 hx hdk hdd hrM hrr hR'
          go_wp2_with (with_reducible refine wl_append _ rfl (.tmp 49) (.tmp 50) 23 rfl 47 .u16 2 Tryd.underlying23 info16 wr.heap.size _ _ _ [x] rfl (one_own wr wr.heap.size _ _ _ x rfl (Nat.le_refl _)) _ nr cr _ rfl (IRd.keep hrd (World.grownBy_alloc _ _ none)) (by omega) (by omega) wr (World.grownBy_alloc _ _ none) (Nat.le_refl _) (by simp) ?_; intro p3 c3 w3 ho3 hg3)
          have hN3 : IsN w3 p3 (1 + nr) c3 (x + 65536 * rr) := by
            have := cons_isN ho3.rd hxb (Can_dg (by omega) rr).1
            rwa [V_dg (by omega)] at this
          refine (refNorm_n hN3 (by omega)).mono ?_
          rintro e w4 ⟨p4, n4, c4, rfl, hR4, hn4, hg4⟩
          have hg34 := grown_trans hg3 hg4
          replace hBr := hBr.keep hg34
          replace hq := hq.keep hg34
          replace hgr := grown_trans hgr hg34
          clear hN3 ho3 hg3 hg4 hg34 hr hrd hc2
          obtain ⟨R4, hR4'⟩ : ∃ R4, R4 = x + 65536 * rr := ⟨_, rfl⟩
          obtain ⟨dd, hdd⟩ : ∃ dd, dd = R4 / M := ⟨_, rfl⟩
          have hRlt := HR'.out
          rw [← hR4'] at hR4 hRlt
          have HDG := hid (refDigit_n hR4.isN hBr.isN (by omega) hpos hRlt)
          rw [← hdd] at HDG
          have hddb : dd < 65536 := by rw [hdd]; exact Nat.div_lt_of_lt_mul (by rw [Nat.mul_comm]; exact hRlt)
          have eD : IntKind.u16.wrap (dd : Int) = (dd : Int) := by rw [IntKind.wrap_u16]; omega
          have hsub : M * dd ≤ R4 := by rw [hdd]; exact Nat.mul_div_le _ _
          have hmod : R4 - M * dd = R4 % M := by
            have := Nat.div_add_mod R4 M
            rw [← hdd] at this; omega
          have HX := hid (And.intro hR4' (And.intro hdd (And.intro hsub hmod)))
          clear hR4' hdd hsub hmod hRlt
          go_wp2_with fail
          refine HDG.out.mono ?_
          rintro e w5 ⟨rfl, hg5⟩
          replace hBr := hBr.keep hg5
          replace hq := hq.keep hg5
          replace hR4 := hR4.keep hg5
          replace hgr := grown_trans hgr hg5
          clear HDG hg5
          go_wp2_with (with_reducible refine wl_append _ rfl (.tmp 58) (.tmp 59) 23 rfl 47 .u16 2 Tryd.underlying23 info16 w5.heap.size _ _ _ [dd] rfl (one_own w5 w5.heap.size _ _ _ dd (by first | rfl | exact eD) (Nat.le_refl _)) _ nq cq _ rfl (IRd.keep hq (World.grownBy_alloc _ _ none)) (by omega) (by omega) w5 (World.grownBy_alloc _ _ none) (Nat.le_refl _) (by simp) ?_; intro p6 c6 w6 ho6 hg6)
          replace hBr := hBr.keep hg6
          replace hR4 := hR4.keep hg6
          replace hgr := grown_trans hgr hg6
          have hq6 := ho6.rd
          clear ho6 hg6 hq
          refine (refOf_c dd (by unfold W64; omega) _).mono ?_
          rintro e w7 ⟨p7, n7, c7, rfl, hO, hn7, hg7⟩
          go_wp2_with fail
          refine (refMul_n (hBr.keep hg7).isN hO.isN (by omega) (by omega)).mono ?_
          rintro e w8 ⟨p8, n8, c8, rfl, hM8, hn8, hg8⟩
          have hg78 := grown_trans hg7 hg8
          replace hR4 := hR4.keep hg78
          replace hq6 := hq6.keep hg78
          replace hgr := grown_trans hgr hg78
          go_wp2_with fail
          refine (refSub_n hR4.isN hM8.isN (by omega) HX.out.2.2.1).mono ?_
          rintro e w9 ⟨p9, n9, c9, rfl, hS9, hn9, hg9⟩
          replace hq6 := hq6.keep hg9
          replace hgr := grown_trans hgr hg9
          go_wp2_with fail
          have hx1 := HX.out
          have hx2 := HDD.out
          have e5 : rr * 65536 + x = R4 := by rw [hx1.1]; omega
          rw [e5] at hx2
          refine ⟨⟨i, p6, 1 + nq, c6, [dd] ++ qs, p9, n9, c9, by omega, by congr 1, rfl, rfl, by omega, hq6, hS9.congr ?_, hgr, hid ⟨Dg.cons hddb HC.out.1, ?_⟩⟩, by simp [intOf]⟩
          · rw [hx1.2.2.2, hx2.1.2, hx2.2]
          · rw [List.singleton_append, V_cons, HC.out.2, hx1.2.1, hx2.1.1, hx2.2]
        · obtain rfl : k = 0 := by omega
          have hr' := hr
          rw [List.drop_zero, HVU.out] at hr'
          have hqv := HC.out.2
          rw [List.drop_zero, HVU.out] at hqv
          have hqN : IsN wr pq nq cq (N / M) := ⟨qs, hq, HC.out.1, hqv⟩
          have hrn : nr ≤ n := hr'.len_le (Nat.lt_of_le_of_lt (Nat.mod_le _ _) HNL.out)
          clear hqv hr
          go_wp2_with fail
          refine (refNorm_n hqN (by omega)).mono ?_
          rintro e w4 ⟨p4, n4, c4, rfl, hq4, hn4, hg4⟩
          go_wp2_with fail
          go_ret3
          exact ⟨p4, n4, c4, pr, nr, cr, rfl, hq4, hr'.keep hg4, by omega, hrn, grown_trans hgw (grown_trans hgr hg4)⟩
end Go.Proofs.YthkgldpcgmnaiaaDoor

set_option linter.unusedVariables false
namespace Nm
theorem gcd_pow_right {x y k : Nat} (hx : x % 2 = 1) : Nat.gcd x (2 ^ k * y) = Nat.gcd x y := by
  have hc : Nat.Coprime x (2 ^ k) := by
    apply Nat.Coprime.pow_right
    have h1 : Nat.gcd x 2 ∣ 2 := Nat.gcd_dvd_right _ _
    have h2 : Nat.gcd x 2 ∣ x := Nat.gcd_dvd_left _ _
    have h3 : Nat.gcd x 2 ≤ 2 := Nat.le_of_dvd (by omega) h1
    have h4 : 0 < Nat.gcd x 2 := Nat.gcd_pos_of_pos_right _ (by omega)
    have : Nat.gcd x 2 ≠ 2 := fun e => by rw [e] at h2; omega
    show Nat.gcd x 2 = 1
    omega
  rw [Nat.gcd_comm, Nat.gcd_comm x y]
  exact Nat.Coprime.gcd_mul_left_cancel y hc.symm

/-- the common divisor, once its powers of 2 are set apart -/
theorem gcd_split {X Y t a p : Nat} (hX : X = 2 ^ a * p) (hp : p % 2 = 1) (h1 : X % 2 ^ t = 0) (h2 : Y % 2 ^ t = 0) (h3 : X / 2 ^ t % 2 = 1 ∨ Y / 2 ^ t % 2 = 1) : Nat.gcd X Y = 2 ^ t * Nat.gcd p Y := by
  have e1 : X = 2 ^ t * (X / 2 ^ t) := (Nat.mul_div_cancel' (Nat.dvd_of_mod_eq_zero h1)).symm
  have e2 : Y = 2 ^ t * (Y / 2 ^ t) := (Nat.mul_div_cancel' (Nat.dvd_of_mod_eq_zero h2)).symm
  have hpt : 0 < 2 ^ t := Nat.pow_pos (by omega)
  generalize X / 2 ^ t = x at *
  generalize Y / 2 ^ t = y at *
  have gY : Nat.gcd p Y = Nat.gcd p y := by rw [e2, gcd_pow_right hp]
  rw [gY, e1, e2, Nat.gcd_mul_left]
  congr 1
  -- a is at least t
  have hta : t ≤ a := by
    refine Nat.le_of_not_lt fun hlt => ?_
    obtain ⟨d, rfl⟩ : ∃ d, t = a + (d + 1) := ⟨t - a - 1, by omega⟩
    rw [hX, Nat.pow_add, Nat.mul_assoc] at e1
    have := Nat.eq_of_mul_eq_mul_left (Nat.pow_pos (by omega)) e1
    rw [Nat.pow_succ, Nat.mul_assoc, Nat.mul_left_comm, Nat.mul_comm] at this
    omega
  obtain ⟨d, rfl⟩ : ∃ d, a = t + d := ⟨a - t, by omega⟩
  rw [hX, Nat.pow_add, Nat.mul_assoc] at e1
  have ex : 2 ^ d * p = x := Nat.eq_of_mul_eq_mul_left hpt e1
  rcases h3 with h3 | h3
  · rcases Nat.eq_zero_or_pos d with h0 | h0
    · subst h0; rw [← ex]; simp
    · obtain ⟨f, rfl⟩ : ∃ f, d = f + 1 := ⟨d - 1, by omega⟩
      rw [← ex, Nat.pow_succ, Nat.mul_comm (2 ^ f), Nat.mul_assoc] at h3
      omega
  · rw [← ex, Nat.gcd_comm, gcd_pow_right h3, Nat.gcd_comm]

/-- the trailing zeros of a join are common to both -/
theorem or_zeros {X Y t m : Nat} (h : X ||| Y = 2 ^ t * (2 * m + 1)) : X % 2 ^ t = 0 ∧ Y % 2 ^ t = 0 ∧ (X / 2 ^ t % 2 = 1 ∨ Y / 2 ^ t % 2 = 1) := by
  have h1 : (X ||| Y) % 2 ^ t = 0 := by rw [h]; exact Nat.mul_mod_right _ _
  have h2 : (X ||| Y) / 2 ^ t = 2 * m + 1 := by rw [h]; exact Nat.mul_div_cancel_left _ (Nat.pow_pos (by omega))
  rw [Nat.or_mod_two_pow] at h1
  have hz : ∀ a b : Nat, a ||| b = 0 → a = 0 ∧ b = 0 := fun a b e => by
    have hl : a ≤ a ||| b := Nat.left_le_or
    have hr : b ≤ a ||| b := Nat.right_le_or
    omega
  obtain ⟨k1, k2⟩ := hz _ _ h1
  refine ⟨k1, k2, ?_⟩
  have h3 : ((X ||| Y) / 2 ^ t) % 2 = 1 := by omega
  have h4 : (X ||| Y).testBit t = true := by rw [Nat.testBit_eq_decide_div_mod_eq]; simpa using h3
  rw [Nat.testBit_or] at h4
  rcases Bool.or_eq_true_iff.1 h4 with h5 | h5
  · left; rw [Nat.testBit_eq_decide_div_mod_eq] at h5; simpa using h5
  · right; rw [Nat.testBit_eq_decide_div_mod_eq] at h5; simpa using h5

/-- one round: the greater odd number less the smaller one -/
theorem gcd_round {x y G k z : Nat} (hx : x % 2 = 1) (hG : Nat.gcd x y = G) (hy : y = 2 ^ k * z) (hz : z % 2 = 1) :
    (x ≤ z → Nat.gcd x (z - x) = G) ∧ (z < x → Nat.gcd z (x - z) = G) := by
  have h1 : Nat.gcd x z = G := by rw [← hG, hy, gcd_pow_right hx]
  constructor
  · intro h; rw [Nat.gcd_sub_self_right h]; exact h1
  · intro h; rw [Nat.gcd_sub_self_right (by omega), Nat.gcd_comm]; exact h1
end Nm

set_option linter.unusedVariables false
set_option linter.unusedSimpArgs false
namespace Go.Proofs.YthkgldpcgmnaiaaDoor
open Go.RowKit Nm

/-- the table of package math/bits as its initialiser lays it -/
def Tb (w : World) : Prop := ∀ j, j < 64 → w.cell? ⟨0, j, none⟩ = some (.int .u8 (Lib.deBruijn64tab.getD j 0 : Nat))
theorem Tb.keep {w w' : World} (h : Tb w) (hg : w.grownBy w' none) : Tb w' := fun j hj => hg.cell (h j hj) (by simp)

theorem tz_key (x a : Nat) (hx : x < 18446744073709551616) (hx0 : x ≠ 0) (hlow : x &&& (18446744073709551616 - x) = a) :
    IntKind.u64.wrap (bits BinOp.and IntKind.u64 (x : Int) (IntKind.u64.wrap (-(x : Int))) * 285870213051353865) / 288230376151711744 = ((a * 285870213051353865 % 18446744073709551616 / 288230376151711744 : Nat) : Int) := by
  have e1 : IntKind.u64.wrap (-(x : Int)) = ((18446744073709551616 - x : Nat) : Int) := by rw [IntKind.wrap_u64]; omega
  rw [e1, bits_and_u64_nat x _ hx (by omega), hlow, IntKind.wrap_u64]
  omega

theorem tz64_core (x k idx : Nat) (w : World) (hx0 : ((x : Int) == 0) = false)
    (key : IntKind.u64.wrap (bits BinOp.and IntKind.u64 (x : Int) (IntKind.u64.wrap (-(x : Int))) * 285870213051353865) / 288230376151711744 = (idx : Int))
    (hi : idx < 64) (hk : k < 64) (hcell : w.cell? ⟨0, idx, none⟩ = some (.int .u8 k)) :
    Calls Tryd.prog 76 #[.int .u64 x] w fun e w' => e = .returned (.int .i64 k) ∧ w = w' := by
  go_enter Tryd.func76, Tryd.ntmps76
  go_wp2_with (simp only [key])
  go_ret
  exact ⟨rfl, rfl⟩

theorem tz64_any (x : Nat) (h0 : 0 < x) (hx : x < W64) (w : World) (hT : Tb w) :
    Calls Tryd.prog 76 #[.int .u64 x] w fun e w' => ∃ k : Nat, k < 64 ∧ e = .returned (.int .i64 k) ∧ Hid (∃ m, x = 2 ^ k * (2 * m + 1)) ∧ w = w' := by
  have hx' : x < 18446744073709551616 := hx
  obtain ⟨hlow, hk⟩ := Lib.lowest_bit 64 x (by omega) hx'
  obtain ⟨hi, htab⟩ := Lib.deBruijn64_at _ hk
  have hcell := hT _ hi
  rw [htab] at hcell
  have hc := tz64_core x _ _ w (beq_eq_false_iff_ne.2 (by omega)) (tz_key x _ hx' (by omega) hlow) hi hk hcell
  refine hc.mono fun e w' ⟨he, hw⟩ => ⟨_, hk, he, hid ?_, hw⟩
  unfold Lib.ctz
  rw [if_neg (by omega)]
  obtain ⟨m, hm, _⟩ := Lib.ctzFrom_spec 64 x h0 hx'
  exact ⟨m, hm⟩

set_option maxHeartbeats 1000000 in
theorem wordGcd_any (x y : Nat) (hx : x < W64) (hy : y < W64) (w : World) (hT : Tb w) :
    Calls Tryd.prog 64 #[.int .u64 x, .int .u64 y] w fun e w' => e = .returned (.int .u64 (Nat.gcd x y : Nat)) ∧ w = w' := by
  have hor : bits .or .u64 (x : Int) (y : Int) = ((x ||| y : Nat) : Int) := bits_or_u64_nat x y hx hy
  by_cases h0 : x = 0
  · subst h0
    have e0 : (((0 : Nat) : Int) == 0) = true := rfl
    rw [Nat.zero_or] at hor
    have hor' : bits .or .u64 (0 : Int) (y : Int) = (y : Int) := hor
    rw [Nat.gcd_zero_left]
    go_enter Tryd.func64, Tryd.ntmps64
    go_wp2
    go_ret
    exact ⟨rfl, rfl⟩
  · have e0 : (((x : Nat) : Int) == 0) = false := beq_eq_false_iff_ne.2 (by omega)
    by_cases h1 : y = 0
    · subst h1
      have e1 : (((0 : Nat) : Int) == 0) = true := rfl
      rw [Nat.or_zero] at hor
      have hor' : bits .or .u64 (x : Int) (0 : Int) = (x : Int) := hor
      rw [Nat.gcd_zero_right]
      go_enter Tryd.func64, Tryd.ntmps64
      go_wp2
      go_ret
      exact ⟨rfl, rfl⟩
    · have e1 : (((y : Nat) : Int) == 0) = false := beq_eq_false_iff_ne.2 (by omega)
      have hob : x ||| y < W64 := Nat.or_lt_two_pow (n := 64) hx hy
      have ho0 : 0 < x ||| y := Nat.lt_of_lt_of_le (by omega) (Nat.left_le_or (n := x) (m := y))
      obtain ⟨z, hz⟩ : ∃ z, z = x ||| y := ⟨_, rfl⟩
      rw [← hz] at hor hob ho0
      have HZ := hid hz
      have HOR := hid hor
      have HG := hid (rfl : Nat.gcd x y = Nat.gcd x y)
      have H1 := hid (tz64_any z ho0 hob w hT)
      have H2 := hid (tz64_any x (by omega) hx w hT)
      clear hz
      go_enter Tryd.func64, Tryd.ntmps64
      go_wp2_with fail
      refine H1.out.mono ?_
      rintro e w' ⟨t, ht, rfl, HT, rfl⟩
      go_wp2_with fail
      refine H2.out.mono ?_
      rintro e w' ⟨a, ha, rfl, HA, rfl⟩
      obtain ⟨m, hm⟩ := HT.out
      obtain ⟨p', hp⟩ := HA.out
      obtain ⟨c1, c2, c3⟩ := or_zeros (HZ.out.symm.trans hm)
      obtain ⟨P, hP⟩ : ∃ P, P = 2 * p' + 1 := ⟨_, rfl⟩
      rw [← hP] at hp
      have hP2 : P % 2 = 1 := by omega
      have hsplit := hid (gcd_split hp hP2 c1 c2 c3)
      have hxa : x / 2 ^ a = P := by rw [hp]; exact Nat.mul_div_cancel_left _ (Nat.pow_pos (by omega))
      have exa : (x : Int) / 2 ^ a = (P : Int) := by rw [← hxa]; simp
      have hPb : P < W64 := by rw [← hxa]; exact Nat.lt_of_le_of_lt (Nat.div_le_self _ _) hx
      have HP2 := hid hP2
      clear hm hp c1 c2 c3 hP hxa HT HA H1 H2 hor hP2 HOR
      go_wp2_with fail
      clear exa
      go_loop [0, 1] (fun s0 s1 => ∃ u v : Nat, s0 = .int .u64 u ∧ s1 = .int .u64 v ∧ u < W64 ∧ v < W64 ∧ Hid (u % 2 = 1 ∧ Nat.gcd u v = Nat.gcd P y)) (fun s0 s1 => (intOf s0 + intOf s1).toNat)
      case atStart => exact ⟨P, y, rfl, rfl, hPb, hy, hid ⟨HP2.out, rfl⟩⟩
      case round =>
        obtain ⟨u, v, rfl, rfl, hu, hv, HC⟩ := hrel
        by_cases hv0 : v = 0
        · subst hv0
          have ev : (((0 : Nat) : Int) != 0) = false := rfl
          have hg := HC.out.2
          rw [Nat.gcd_zero_right] at hg
          have hgb : u * 2 ^ t = Nat.gcd x y := by rw [hsplit.out, hg, Nat.mul_comm]
          have hlt : Nat.gcd x y < 18446744073709551616 := Nat.lt_of_le_of_lt (Nat.gcd_le_left y (by omega)) hx
          have esh : IntKind.u64.wrap ((u : Int) * 2 ^ t) = ((Nat.gcd x y : Nat) : Int) := by
            rw [show ((u : Int) * 2 ^ t) = ((u * 2 ^ t : Nat) : Int) by simp, hgb]; exact wrap_in _ hlt
          clear hg hgb hlt
          go_wp2_with fail
          go_ret
          exact ⟨rfl, rfl⟩
        · have ev : (((v : Nat) : Int) != 0) = true := by rw [bne_iff_ne]; omega
          go_wp2_with fail
          refine (tz64_any v (by omega) hv w hT).mono ?_
          rintro e w' ⟨k, hk, rfl, HK, rfl⟩
          obtain ⟨q', hq⟩ := HK.out
          obtain ⟨q, hq'⟩ : ∃ q, q = 2 * q' + 1 := ⟨_, rfl⟩
          rw [← hq'] at hq
          have hvk : v / 2 ^ k = q := by rw [hq]; exact Nat.mul_div_cancel_left _ (Nat.pow_pos (by omega))
          have evk : (v : Int) / 2 ^ k = (q : Int) := by rw [← hvk]; simp
          have hqv : q ≤ v := by rw [← hvk]; exact Nat.div_le_self _ _
          have hrd := hid (gcd_round HC.out.1 HC.out.2 hq (by omega))
          have HQ2 := hid (show q % 2 = 1 by omega)
          have hu1 : 1 ≤ u := by have := HC.out.1; omega
          have hq1 : 1 ≤ q := by omega
          clear hq hq' hvk HK ev
          by_cases hlt : q < u
          · have hlt' : (q : Int) < (u : Int) := by omega
            have esub : IntKind.u64.wrap ((u : Int) - (q : Int)) = ((u - q : Nat) : Int) := by rw [IntKind.wrap_u64]; unfold W64 at hu; omega
            obtain ⟨dd, hdd⟩ : ∃ dd, dd = u - q := ⟨_, rfl⟩
            rw [← hdd] at esub
            have hr := hid (hrd.out.2 hlt)
            rw [← hdd] at hr
            have HDD := hid hdd
            clear hdd
            go_wp2_with fail
            exact ⟨⟨q, dd, rfl, rfl, Nat.lt_of_le_of_lt hqv hv, by have := HDD.out; omega, hid ⟨HQ2.out, hr.out⟩⟩, by have := HDD.out; simp [intOf]; omega⟩
          · have hlt' : ¬ (q : Int) < (u : Int) := by omega
            have esub : IntKind.u64.wrap ((q : Int) - (u : Int)) = ((q - u : Nat) : Int) := by rw [IntKind.wrap_u64]; unfold W64 at hv; omega
            obtain ⟨dd, hdd⟩ : ∃ dd, dd = q - u := ⟨_, rfl⟩
            rw [← hdd] at esub
            have hr := hid (hrd.out.1 (by omega))
            rw [← hdd] at hr
            have HDD := hid hdd
            clear hdd
            go_wp2_with fail
            exact ⟨⟨u, dd, rfl, rfl, hu, by have := HDD.out; omega, hid ⟨HC.out.1, hr.out⟩⟩, by have := HDD.out; simp [intOf]; omega⟩
end Go.Proofs.YthkgldpcgmnaiaaDoor

set_option linter.unusedVariables false
namespace Nm
/-- what some steps of Euclid's algorithm on the leading bits A and C have made of them: the rests h and o, and their cofactors -/
structure Es (A C x0 y0 x1 y1 n h o : Nat) : Prop where
  eu : (n % 2 = 0 ∧ Eu A C x0 y0 x1 y1 h o) ∨ (n % 2 = 1 ∧ Eu C A y0 x0 y1 x1 h o)
  le : o ≤ h
  some : (n = 0 ∧ x0 = 1 ∧ y0 = 0 ∧ x1 = 0 ∧ y1 = 1) ∨ (1 ≤ n ∧ x0 ≤ y0 ∧ x1 ≤ y1 ∧ 1 ≤ y0 ∧ 1 ≤ x1 ∧ y1 ≤ o ∧ o + y0 + y1 ≤ h ∧ n ≤ y1)

theorem Es.start {A C : Nat} (h : C ≤ A) : Es A C 1 0 0 1 0 A C := ⟨.inl ⟨rfl, Eu.start A C⟩, h, .inl ⟨rfl, rfl, rfl, rfl, rfl⟩⟩

theorem Es.back {A C x0 y0 x1 y1 n h o : Nat} (e : Es A C x0 y0 x1 y1 n h o) : A = y1 * h + y0 * o ∧ C = x1 * h + x0 * o := by
  rcases e.eu with ⟨_, k⟩ | ⟨_, k⟩
  · exact k.back
  · exact ⟨k.back.2, k.back.1⟩

/-- the next cofactors fit -/
theorem Es.fits {A C x0 y0 x1 y1 n h o : Nat} (e : Es A C x0 y0 x1 y1 n h o) (ho : 0 < o) :
    (y0 + h / o * y1) * o ≤ A ∧ (x0 + h / o * x1) * o ≤ C ∧ y0 + h / o * y1 ≤ A ∧ x0 + h / o * x1 ≤ C ∧ 1 ≤ h / o := by
  obtain ⟨b1, b2⟩ := e.back
  have hq : h / o * o ≤ h := Nat.div_mul_le_self h o
  have f1 : (y0 + h / o * y1) * o ≤ A := by
    rw [b1, Nat.add_mul, Nat.mul_right_comm]
    have := Nat.mul_le_mul_right y1 hq
    rw [Nat.mul_comm h y1] at this; omega
  have f2 : (x0 + h / o * x1) * o ≤ C := by
    rw [b2, Nat.add_mul, Nat.mul_right_comm]
    have := Nat.mul_le_mul_right x1 hq
    rw [Nat.mul_comm h x1] at this; omega
  refine ⟨f1, f2, Nat.le_trans (Nat.le_mul_of_pos_right _ ho) f1, Nat.le_trans (Nat.le_mul_of_pos_right _ ho) f2, (Nat.le_div_iff_mul_le ho).2 (by have := e.le; omega)⟩

theorem Es.next {A C x0 y0 x1 y1 n h o : Nat} (e : Es A C x0 y0 x1 y1 n h o) (ho : 0 < o) (h1 : y0 + h / o * y1 ≤ h % o) (h2 : y1 + (y0 + h / o * y1) ≤ o - h % o) :
    Es A C x1 y1 (x0 + h / o * x1) (y0 + h / o * y1) (n + 1) o (h % o) := by
  have hq := (e.fits ho).2.2.2.2
  have hrest := Nat.mod_lt h ho
  have hdm : h = h / o * o + h % o := by rw [Nat.mul_comm]; exact (Nat.div_add_mod h o).symm
  generalize h / o = q at *
  generalize h % o = r at *
  refine ⟨?_, by omega, .inr ⟨by omega, ?_, ?_, ?_, ?_, h1, by omega, ?_⟩⟩
  · rcases e.eu with ⟨k1, k⟩ | ⟨k1, k⟩
    · exact .inr ⟨by omega, k.step q r hdm⟩
    · exact .inl ⟨by omega, k.step q r hdm⟩
  · rcases e.some with ⟨_, _, _, rfl, rfl⟩ | ⟨_, _, h3, _⟩
    · omega
    · exact h3
  · rcases e.some with ⟨_, rfl, rfl, rfl, rfl⟩ | ⟨_, k0, k1, _⟩
    · omega
    · have := Nat.mul_le_mul_left q k1; omega
  · rcases e.some with ⟨_, _, _, _, rfl⟩ | ⟨k0, _, _, _, _, _, _, k7⟩
    · omega
    · omega
  · rcases e.some with ⟨_, rfl, _, _, _⟩ | ⟨_, _, _, _, k4, _⟩
    · omega
    · have := Nat.mul_le_mul hq k4; omega
  · rcases e.some with ⟨rfl, _, rfl, _, rfl⟩ | ⟨_, _, _, k3, _, _, _, k7⟩
    · omega
    · have := Nat.mul_le_mul_right y1 hq; omega

theorem half_lt {y A : Nat} (h : y * y ≤ A) (hA : A < 18446744073709551616) : y < 4294967296 := by
  refine Nat.lt_of_not_le fun hge => ?_
  have := Nat.mul_le_mul hge hge
  omega

/-- the same steps on numbers that begin with these bits -/
theorem Es.lift {A C x0 y0 x1 y1 n h o : Nat} (e : Es A C x0 y0 x1 y1 n h o) (hn : 1 ≤ n) {K a' c' a c : Nat} (ha : a' < K) (hc : c' < K) (ea : a = A * K + a') (ec : c = C * K + c') :
    ∃ H O, O < H ∧ Nat.gcd H O = Nat.gcd a c ∧ H + O < a + c ∧ H ≤ a ∧
      (n % 2 = 0 → y0 * c ≤ x0 * a ∧ H = x0 * a - y0 * c ∧ x1 * a ≤ y1 * c ∧ O = y1 * c - x1 * a) ∧ (n % 2 = 1 → x0 * a ≤ y0 * c ∧ H = y0 * c - x0 * a ∧ y1 * c ≤ x1 * a ∧ O = x1 * a - y1 * c) := by
  rcases e.some with ⟨k0, _⟩ | ⟨_, k1, k2, k3, k4, k5, k6, k7⟩
  · omega
  rcases e.eu with ⟨m, k⟩ | ⟨m, k⟩
  · obtain ⟨l1, l2, l3, l4⟩ := k.lift (M0 := y0) (M1 := y1) ha hc ea ec (Nat.le_refl _) k2 (Nat.le_refl _) (by omega) k5 (by omega)
    obtain ⟨b1, b2⟩ := l4.back
    generalize hH : x0 * a - y0 * c = H at *
    generalize hO : y1 * c - x1 * a = O at *
    have p1 : 1 * H ≤ y1 * H := Nat.mul_le_mul_right _ (by omega)
    have p2 : 1 * O ≤ y0 * O := Nat.mul_le_mul_right _ k3
    have p3 : 1 * H ≤ x1 * H := Nat.mul_le_mul_right _ k4
    exact ⟨H, O, l3, l4.gcd, by omega, by omega, fun _ => ⟨l1, hH.symm ▸ rfl, l2, hO.symm ▸ rfl⟩, fun h => by omega⟩
  · obtain ⟨l1, l2, l3, l4⟩ := k.lift (M0 := x0) (M1 := y1) hc ha ec ea (Nat.le_refl _) (Nat.le_refl _) k2 (by omega) k5 (by omega)
    obtain ⟨b1, b2⟩ := l4.back
    generalize hH : y0 * c - x0 * a = H at *
    generalize hO : x1 * a - y1 * c = O at *
    have p1 : 1 * H ≤ y1 * H := Nat.mul_le_mul_right _ (by omega)
    have p2 : 1 * O ≤ y0 * O := Nat.mul_le_mul_right _ k3
    have p3 : 1 * H ≤ x1 * H := Nat.mul_le_mul_right _ k4
    exact ⟨H, O, l3, by rw [l4.gcd, Nat.gcd_comm], by omega, by omega, fun h => by omega, fun _ => ⟨l1, hH.symm ▸ rfl, l2, hO.symm ▸ rfl⟩⟩
end Nm

set_option linter.unusedVariables false
set_option linter.unusedSimpArgs false
namespace Go.Proofs.YthkgldpcgmnaiaaDoor
open Go.RowKit Nm

/-- the five cells of a struct rests -/
def Rst (w : World) (g x0 y0 x1 y1 n : Nat) : Prop := w.heap[g]? = some (.cells #[.int .u64 x0, .int .u64 y0, .int .u64 x1, .int .u64 y1, .int .i64 n] 92 (0, 0))

theorem Rst.facts {w : World} {g x0 y0 x1 y1 n : Nat} (h : Rst w g x0 y0 x1 y1 n) :
    w.cell? ⟨g, 0, none⟩ = some (.int .u64 x0) ∧ w.cell? ⟨g, 1, none⟩ = some (.int .u64 y0) ∧ w.cell? ⟨g, 2, none⟩ = some (.int .u64 x1) ∧ w.cell? ⟨g, 3, none⟩ = some (.int .u64 y1) ∧ w.cell? ⟨g, 4, none⟩ = some (.int .i64 n) ∧
      w.frozen? ⟨g, 0, none⟩ = false ∧ w.frozen? ⟨g, 1, none⟩ = false ∧ w.frozen? ⟨g, 2, none⟩ = false ∧ w.frozen? ⟨g, 3, none⟩ = false ∧ w.frozen? ⟨g, 4, none⟩ = false := by
  unfold Rst at h
  have k := fun j => cell_of_row w g j _ _ _ h
  have f := fun j => frozen_of_row w g j _ _ h
  exact ⟨by rw [k]; rfl, by rw [k]; rfl, by rw [k]; rfl, by rw [k]; rfl, by rw [k]; rfl, f 0, f 1, f 2, f 3, f 4⟩

theorem Rst.set5 {w : World} {g x0 y0 x1 y1 n : Nat} (h : Rst w g x0 y0 x1 y1 n) (a b c d m : Nat) :
    Rst (((((w.setCell ⟨g, 0, none⟩ (.int .u64 a)).setCell ⟨g, 1, none⟩ (.int .u64 b)).setCell ⟨g, 2, none⟩ (.int .u64 c)).setCell ⟨g, 3, none⟩ (.int .u64 d)).setCell ⟨g, 4, none⟩ (.int .i64 m)) g a b c d m := by
  unfold Rst at h ⊢
  rw [heap_setCell_same _ g 4 _ _ _ (heap_setCell_same _ g 3 _ _ _ (heap_setCell_same _ g 2 _ _ _ (heap_setCell_same _ g 1 _ _ _ (heap_setCell_same _ g 0 _ _ _ h))))]
  simp
theorem Rst.kept {w w' : World} {g x0 y0 x1 y1 n : Nat} (h : Rst w g x0 y0 x1 y1 n) {row : Option Nat} (hg : w.grownBy w' row) (hne : some g ≠ row) : Rst w' g x0 y0 x1 y1 n := (hg.block g (lt_of_block h) hne).trans h
theorem grown_set5 (w : World) (g : Nat) (a b c d e : Value) : w.grownBy (((((w.setCell ⟨g, 0, none⟩ a).setCell ⟨g, 1, none⟩ b).setCell ⟨g, 2, none⟩ c).setCell ⟨g, 3, none⟩ d).setCell ⟨g, 4, none⟩ e) (some g) :=
  grown_trans (grown_trans (grown_trans (grown_trans (grown_setCell w ⟨g, 0, none⟩ a) (grown_setCell _ ⟨g, 1, none⟩ b)) (grown_setCell _ ⟨g, 2, none⟩ c)) (grown_setCell _ ⟨g, 3, none⟩ d)) (grown_setCell _ ⟨g, 4, none⟩ e)

set_option maxHeartbeats 2000000 in
theorem euclid_any (A C : Nat) (hA : A < W64) (hC : C ≤ A) (w : World) :
    Calls Tryd.prog 78 #[.int .u64 A, .int .u64 C] w fun e w' => ∃ x0 y0 x1 y1 n : Nat, e = .returned (.agg #[.int .u64 x0, .int .u64 y0, .int .u64 x1, .int .u64 y1, .int .i64 n]) ∧ x0 < W64 ∧ y0 < W64 ∧ x1 < W64 ∧ y1 < W64 ∧ n ≤ 4294967296 ∧
      Hid (∃ h o, Es A C x0 y0 x1 y1 n h o) ∧ w.grownBy w' none := by
  go_enter Tryd.func78, Tryd.ntmps78
  go_wp2_with fail
  obtain ⟨g4, hg4⟩ : ∃ g, g = w.heap.size := ⟨_, rfl⟩
  have hb5 : Rst ((w.alloc (.cells #[.int .u64 (0 : Nat), .int .u64 (0 : Nat), .int .u64 (0 : Nat), .int .u64 (0 : Nat), .int .i64 (0 : Nat)] 92)).alloc (.cells #[.int .u64 (1 : Nat), .int .u64 (0 : Nat), .int .u64 (0 : Nat), .int .u64 (1 : Nat), .int .i64 (0 : Nat)] 92)) (w.heap.size + 1) 1 0 0 1 0 := by
    have := heap_alloc_new (w.alloc (.cells #[.int .u64 (0 : Nat), .int .u64 (0 : Nat), .int .u64 (0 : Nat), .int .u64 (0 : Nat), .int .i64 (0 : Nat)] 92)) (.cells #[.int .u64 (1 : Nat), .int .u64 (0 : Nat), .int .u64 (0 : Nat), .int .u64 (1 : Nat), .int .i64 (0 : Nat)] 92)
    simpa [Rst] using this
  have hb4 : Rst ((w.alloc (.cells #[.int .u64 (0 : Nat), .int .u64 (0 : Nat), .int .u64 (0 : Nat), .int .u64 (0 : Nat), .int .i64 (0 : Nat)] 92)).alloc (.cells #[.int .u64 (1 : Nat), .int .u64 (0 : Nat), .int .u64 (0 : Nat), .int .u64 (1 : Nat), .int .i64 (0 : Nat)] 92)) w.heap.size 0 0 0 0 0 :=
    (Below.heap_alloc (w.alloc _) _ w.heap.size (by simp)).trans (heap_alloc_new w _)
  have hgw : w.grownBy ((w.alloc (.cells #[.int .u64 (0 : Nat), .int .u64 (0 : Nat), .int .u64 (0 : Nat), .int .u64 (0 : Nat), .int .i64 (0 : Nat)] 92)).alloc (.cells #[.int .u64 (1 : Nat), .int .u64 (0 : Nat), .int .u64 (0 : Nat), .int .u64 (1 : Nat), .int .i64 (0 : Nat)] 92)) none :=
    grown_trans (World.grownBy_alloc _ _ none) (World.grownBy_alloc _ _ none)
  rw [← hg4] at hb4 hb5 ⊢
  have HG := hid hg4
  clear hg4
  go_loopw [0, 1] (fun s0 s1 wr => ∃ hi o x0 y0 x1 y1 n : Nat, s0 = .int .u64 hi ∧ s1 = .int .u64 o ∧ hi < W64 ∧ o < W64 ∧ x0 < W64 ∧ y0 < W64 ∧ x1 < W64 ∧ y1 < W64 ∧ n ≤ 4294967296 ∧ Rst wr (g4 + 1) x0 y0 x1 y1 n ∧ Rst wr g4 0 0 0 0 0 ∧ w.grownBy wr none ∧ Hid (Es A C x0 y0 x1 y1 n hi o)) (fun _ s1 _ => (intOf s1).toNat)
  case atStart => exact ⟨A, C, 1, 0, 0, 1, 0, rfl, rfl, hA, Nat.lt_of_le_of_lt hC hA, by decide, by decide, by decide, by decide, by omega, hb5, hb4, hgw, hid (Es.start hC)⟩
  case round =>
    clear hb4 hb5 hgw
    obtain ⟨hi, o, x0, y0, x1, y1, n, rfl, rfl, hh, ho, b0, b1, b2, b3, hn, hr5, hr4, hgr, HE⟩ := hrel
    obtain ⟨c0, c1, c2, c3, c4, f0, f1, f2, f3, f4⟩ := hr5.facts
    by_cases hpos : 0 < o
    · have hpos' : (0 : Int) < (o : Int) := by omega
      have ho1 : (1 : Int) ≤ (o : Int) := by omega
      have hfit := HE.out.fits hpos
      obtain ⟨q, hq⟩ : ∃ q, q = hi / o := ⟨_, rfl⟩
      obtain ⟨r, hr⟩ : ∃ r, r = hi % o := ⟨_, rfl⟩
      have hro : r < o := by rw [hr]; exact Nat.mod_lt _ hpos
      have hqb : q < W64 := by rw [hq]; exact Nat.lt_of_le_of_lt (Nat.div_le_self _ _) hh
      have HN := hid (fun h1 h2 => HE.out.next hpos h1 h2)
      rw [← hq] at hfit HN
      rw [← hr] at HN
      obtain ⟨m1, hm1⟩ : ∃ m, m = q * x1 := ⟨_, rfl⟩
      obtain ⟨m2, hm2⟩ : ∃ m, m = q * y1 := ⟨_, rfl⟩
      obtain ⟨X, hX⟩ : ∃ X, X = x0 + m1 := ⟨_, rfl⟩
      obtain ⟨Y, hY⟩ : ∃ Y, Y = y0 + m2 := ⟨_, rfl⟩
      rw [← hm1, ← hm2, ← hX, ← hY] at hfit HN
      have hYA : Y ≤ A := hfit.2.2.1
      have hXC : X ≤ C := hfit.2.2.2.1
      have hYo : Y * o ≤ A := hfit.1
      unfold W64 at hA
      have e1 : IntKind.u64.wrap ((hi : Int) / (o : Int)) = (q : Int) := by rw [hq, ← Int.natCast_ediv]; exact wrap_in _ (Nat.lt_of_le_of_lt (Nat.div_le_self _ _) hh)
      have e2 : (hi : Int).tmod (o : Int) = (r : Int) := by rw [hr]; rfl
      have e2' : (hi : Int) % (o : Int) = (r : Int) := by rw [hr]; simp
      have e3 : IntKind.u64.wrap ((q : Int) * (x1 : Int)) = (m1 : Int) := by rw [cast_mul, ← hm1]; exact wrap_in _ (by omega)
      have e4 : IntKind.u64.wrap ((q : Int) * (y1 : Int)) = (m2 : Int) := by rw [cast_mul, ← hm2]; exact wrap_in _ (by omega)
      have e5 : IntKind.u64.wrap ((x0 : Int) + (m1 : Int)) = (X : Int) := by rw [cast_add, ← hX]; exact wrap_in _ (by omega)
      have e6 : IntKind.u64.wrap ((y0 : Int) + (m2 : Int)) = (Y : Int) := by rw [cast_add, ← hY]; exact wrap_in _ (by omega)
      have e7 : IntKind.i64.wrap ((n : Int) + 1) = ((n + 1 : Nat) : Int) := by have := IntWalk.i64_in ((n : Int) + 1) (by omega); rw [this]; simp
      have HF := hid (And.intro hYo (And.intro hYA hXC))
      have hyY : y1 ≤ Y := by
        rw [hY, hm2]
        have := Nat.le_mul_of_pos_left y1 (show 0 < q from hfit.2.2.2.2); omega
      clear hq hr hm1 hm2 hX hY hYo hYA hXC hfit
      go_wp2_with fail
      go_quiet (fail)
      replace hr5 : Rst (wr.drewN nq) (g4 + 1) x0 y0 x1 y1 n := hr5
      replace hr4 : Rst (wr.drewN nq) g4 0 0 0 0 0 := hr4
      replace hgr := gdN hgr nq
      clear c0 c1 c2 c3 c4 f0 f1 f2 f3 f4
      generalize wr.drewN nq = wz at *
      obtain ⟨c0, c1, c2, c3, c4, f0, f1, f2, f3, f4⟩ := hr5.facts
      go_upto_region 5 with fail
      have hl5 := lt_of_block hr5
      have hl4 := lt_of_block hr4
      have hgA := World.grownBy_alloc wz (.cells #[.int .u64 x1, .int .u64 y1, .int .u64 X, .int .u64 Y, .int .i64 ((n : Int) + 1)] 92) none
      have hr8 : Rst (wz.alloc (.cells #[.int .u64 x1, .int .u64 y1, .int .u64 X, .int .u64 Y, .int .i64 ((n : Int) + 1)] 92)) wz.heap.size x1 y1 X Y (n + 1) := by
        have := heap_alloc_new wz (.cells #[.int .u64 x1, .int .u64 y1, .int .u64 X, .int .u64 Y, .int .i64 ((n : Int) + 1)] 92)
        unfold Rst; simpa using this
      replace hr5 := hr5.kept hgA (by simp)
      replace hr4 := hr4.kept hgA (by simp)
      replace hgr := grown_trans hgr hgA
      clear hgA c0 c1 c2 c3 c4 f0 f1 f2 f3 f4
      generalize wz.alloc (.cells #[.int .u64 x1, .int .u64 y1, .int .u64 X, .int .u64 Y, .int .i64 ((n : Int) + 1)] 92) = wy at *
      generalize wz.heap.size = g8 at *
      obtain ⟨c0, c1, c2, c3, c4, f0, f1, f2, f3, f4⟩ := hr5.facts
      obtain ⟨p0, p1, p2, p3, p4, _, _, _, _, _⟩ := hr8.facts
      obtain ⟨k0, k1, k2, k3, k4, z0, z1, z2, z3, z4⟩ := hr4.facts
      by_cases hA1 : r < Y
      · have hA1' : (r : Int) < (Y : Int) := by omega
        go_wp2_with fail
        exact bodyPost_ret (v := .agg #[.int .u64 x0, .int .u64 y0, .int .u64 x1, .int .u64 y1, .int .i64 n]) (by simp [results, Tryd.results78, go_sem, k0, k1, k2, k3, k4]) rfl
          ⟨x0, y0, x1, y1, n, rfl, b0, b1, b2, b3, hn, hid ⟨hi, o, HE.out⟩, grown_new hgr (grown_set5 _ _ _ _ _ _ _) (fun g' e' => by cases e'; have := HG.out; omega)⟩
      · have hA1' : ¬ (r : Int) < (Y : Int) := by omega
        have hYb : Y < 4294967296 := half_lt (Nat.le_trans (Nat.mul_le_mul_left Y (show Y ≤ o by omega)) HF.out.1) hA
        obtain ⟨dd, hdd⟩ : ∃ dd, dd = o - r := ⟨_, rfl⟩
        obtain ⟨S, hS⟩ : ∃ S, S = y1 + Y := ⟨_, rfl⟩
        have e8 : IntKind.u64.wrap ((o : Int) - (r : Int)) = (dd : Int) := by unfold W64 at ho; rw [IntKind.wrap_u64]; omega
        have e9 : IntKind.u64.wrap ((y1 : Int) + (Y : Int)) = (S : Int) := by rw [IntKind.wrap_u64]; omega
        have HDS := hid (And.intro hdd hS)
        clear hdd hS
        by_cases hB1 : dd < S
        · have hB1' : (dd : Int) < (S : Int) := by omega
          go_wp2_with fail
          exact bodyPost_ret (v := .agg #[.int .u64 x0, .int .u64 y0, .int .u64 x1, .int .u64 y1, .int .i64 n]) (by simp [results, Tryd.results78, go_sem, k0, k1, k2, k3, k4]) rfl
            ⟨x0, y0, x1, y1, n, rfl, b0, b1, b2, b3, hn, hid ⟨hi, o, HE.out⟩, grown_new hgr (grown_set5 _ _ _ _ _ _ _) (fun g' e' => by cases e'; have := HG.out; omega)⟩
        · have hB1' : ¬ (dd : Int) < (S : Int) := by omega
          have hnx := hid (HN.out (by omega) (by have := HDS.out; omega))
          have hny : n + 1 ≤ 4294967296 := by
            rcases hnx.out.some with ⟨h0, _⟩ | ⟨_, _, _, _, _, _, _, h7⟩
            · omega
            · omega
          go_wp2_with fail
          refine ⟨⟨o, r, x1, y1, X, Y, n + 1, rfl, rfl, ho, by omega, b2, b3, ?_, ?_, hny, Rst.set5 hr5 x1 y1 X Y (n + 1), hr4.kept (grown_set5 _ _ _ _ _ _ _) (by simp), grown_new hgr (grown_set5 _ _ _ _ _ _ _) (fun g' e' => by cases e'; have := HG.out; omega), hnx⟩, by simp [intOf]; omega⟩
          · have := HF.out.2.2; unfold W64; omega
          · unfold W64; omega
    · obtain rfl : o = 0 := by omega
      obtain ⟨k0, k1, k2, k3, k4, z0, z1, z2, z3, z4⟩ := hr4.facts
      go_wp2_with fail
      exact bodyPost_ret (v := .agg #[.int .u64 x0, .int .u64 y0, .int .u64 x1, .int .u64 y1, .int .i64 n]) (by simp [results, Tryd.results78, go_sem, k0, k1, k2, k3, k4]) rfl
        ⟨x0, y0, x1, y1, n, rfl, b0, b1, b2, b3, hn, hid ⟨hi, 0, HE.out⟩, grown_new hgr (grown_set5 _ _ _ _ _ _ _) (fun g' e' => by cases e'; have := HG.out; omega)⟩
end Go.Proofs.YthkgldpcgmnaiaaDoor

set_option linter.unusedVariables false
set_option linter.unusedSimpArgs false
namespace Go.Proofs.YthkgldpcgmnaiaaDoor
open Go.RowKit Nm

/-- A and C are the numbers a and c without the same number of low bits -/
def IsLead (a c A C : Nat) : Prop := ∃ K a' c', 0 < K ∧ a' < K ∧ c' < K ∧ a = A * K + a' ∧ c = C * K + c'

theorem top_two {W : Nat} (hW : 1 < W) (xs : List Nat) (hd : Dg W xs) (m : Nat) (hl : xs.length = m + 2) (T : Nat) (hT : 0 < T) :
    V W xs / (W ^ m * T) = (xs[m + 1] * W + xs[m]) / T := by
  obtain ⟨lo, h1, h2⟩ := two_top hW xs hd m hl
  rw [← Nat.div_div_eq_div_mul, h2, Nat.mul_comm, Nat.mul_add_div (Nat.pow_pos (by omega)), Nat.div_eq_of_lt h1, Nat.add_zero]

theorem lead_word {S T W x1 x0 : Nat} (hST : S * T = W) (hT : 0 < T) : (x1 * W + x0) / T = x1 * S + x0 / T := by
  rw [← hST, ← Nat.mul_assoc, Nat.add_comm, Nat.mul_comm, Nat.add_mul_div_left _ _ hT, Nat.add_comm]

set_option maxHeartbeats 2000000 in
theorem leading_any (ax ay : Option Addr) (m cx cy : Nat) (xs ys : List Nat) (w : World) (hx : IRd w .u64 ax (m + 2) cx xs) (hy : IRd w .u64 ay (m + 2) cy ys) (hxd : Dg W64 xs) (hyd : Dg W64 ys) (hm : m ≤ 900000)
    (htop : ∀ t, xs[m + 1]? = some t → 0 < t) (hle : V W64 ys ≤ V W64 xs) :
    Calls Tryd.prog 79 #[.slice ax (m + 2 : Nat) cx, .slice ay (m + 2 : Nat) cy] w fun e w' => ∃ A C : Nat, e = .returned (.tuple #[.int .u64 A, .int .u64 C]) ∧ A < W64 ∧ C ≤ A ∧ Hid (IsLead (V W64 xs) (V W64 ys) A C) ∧ ∃ n, w' = w.drewN n := by
  have hxl : xs.length = m + 2 := hx.len
  have hyl : ys.length = m + 2 := hy.len
  have hxm := hx.max
  have hxc := hx.cap
  have hym := hy.max
  have hyc := hy.cap
  obtain ⟨bx, ox, rfl, hx1⟩ := hx.cel (m + 1) (by omega)
  obtain ⟨by', oy, rfl, hy1⟩ := hy.cel (m + 1) (by omega)
  obtain ⟨bx', ox', ex, hx0⟩ := hx.cel m (by omega)
  cases ex
  obtain ⟨by2, oy2, ey, hy0⟩ := hy.cel m (by omega)
  cases ey
  obtain ⟨u1, hu1⟩ : ∃ u, u = xs[m + 1]'(by omega) := ⟨_, rfl⟩
  obtain ⟨u0, hu0⟩ : ∃ u, u = xs[m]'(by omega) := ⟨_, rfl⟩
  obtain ⟨v1, hv1⟩ : ∃ u, u = ys[m + 1]'(by omega) := ⟨_, rfl⟩
  obtain ⟨v0, hv0⟩ : ∃ u, u = ys[m]'(by omega) := ⟨_, rfl⟩
  rw [← hu1] at hx1
  rw [← hu0] at hx0
  rw [← hv1] at hy1
  rw [← hv0] at hy0
  have bu1 : u1 < W64 := by rw [hu1]; exact hxd.get _ _
  have bu0 : u0 < W64 := by rw [hu0]; exact hxd.get _ _
  have bv1 : v1 < W64 := by rw [hv1]; exact hyd.get _ _
  have bv0 : v0 < W64 := by rw [hv0]; exact hyd.get _ _
  have hpos : 0 < u1 := htop u1 (by rw [List.getElem?_eq_getElem (by omega), hu1])
  have hvu : v1 ≤ u1 := by
    rw [hu1, hv1, dig_get xs hxd (m + 1) (by omega), dig_get ys hyd (m + 1) (by omega)]
    have h1 : V W64 xs / W64 ^ (m + 1) < W64 := Nat.div_lt_of_lt_mul (by have := hxd.lt; rw [hxl, Nat.pow_succ] at this; exact this)
    have h2 : V W64 ys / W64 ^ (m + 1) < W64 := Nat.div_lt_of_lt_mul (by have := hyd.lt; rw [hyl, Nat.pow_succ] at this; exact this)
    rw [Nat.mod_eq_of_lt h1, Nat.mod_eq_of_lt h2]
    exact Nat.div_le_div_right hle
  have L1 := hid (lz_any u1 hpos bu1 w)
  have HUV := hid (And.intro hu1 (And.intro hu0 (And.intro hv1 hv0)))
  have HLE := hid hle
  clear hu1 hu0 hv1 hv0 hle htop
  have hm1 : (0 : Int) ≤ (m : Int) + 2 - 1 := by omega
  have hm2 : (0 : Int) ≤ (m : Int) + 2 - 2 := by omega
  go_enter Tryd.func79, Tryd.ntmps79
  go_wp2_with fail
  refine L1.out.mono ?_
  rintro e w' ⟨s, hs, rfl, HL, rfl⟩
  obtain ⟨T, hT⟩ : ∃ T, T = 64 - s := ⟨_, rfl⟩
  have hST : 2 ^ s * 2 ^ T = W64 := by rw [hT]; exact two_pow_cut s hs
  have hT0 : 0 < 2 ^ T := Nat.pow_pos (by omega)
  have l1 := HL.out.2.2
  have l2 : v1 * 2 ^ s < 18446744073709551616 := Nat.lt_of_le_of_lt (Nat.mul_le_mul_right _ hvu) l1
  obtain ⟨H1, hH1⟩ : ∃ H, H = u1 * 2 ^ s := ⟨_, rfl⟩
  obtain ⟨H2, hH2⟩ : ∃ H, H = v1 * 2 ^ s := ⟨_, rfl⟩
  obtain ⟨L1', hL1⟩ : ∃ H, H = u0 / 2 ^ T := ⟨_, rfl⟩
  obtain ⟨L2', hL2⟩ : ∃ H, H = v0 / 2 ^ T := ⟨_, rfl⟩
  rw [← hH1] at l1
  rw [← hH2] at l2
  have k1 : L1' < 2 ^ s := by rw [hL1]; exact Nat.div_lt_of_lt_mul (by rw [Nat.mul_comm, hST]; exact bu0)
  have k2 : L2' < 2 ^ s := by rw [hL2]; exact Nat.div_lt_of_lt_mul (by rw [Nat.mul_comm, hST]; exact bv0)
  have hpw : 2 ^ s < 18446744073709551616 := Nat.lt_of_lt_of_le (Nat.pow_lt_pow_right (by omega) (show s < 64 by omega)) (by decide)
  obtain ⟨A, hA⟩ : ∃ A, A = H1 + L1' := ⟨_, rfl⟩
  obtain ⟨C, hC⟩ : ∃ C, C = H2 + L2' := ⟨_, rfl⟩
  have eH1 : IntKind.u64.wrap ((u1 : Int) * 2 ^ s) = (H1 : Int) := by rw [show ((u1 : Int) * 2 ^ s) = ((u1 * 2 ^ s : Nat) : Int) by simp, ← hH1]; exact wrap_in _ l1
  have eH2 : IntKind.u64.wrap ((v1 : Int) * 2 ^ s) = (H2 : Int) := by rw [show ((v1 : Int) * 2 ^ s) = ((v1 * 2 ^ s : Nat) : Int) by simp, ← hH2]; exact wrap_in _ l2
  have eL1 : (u0 : Int) / 2 ^ T = (L1' : Int) := by rw [hL1]; simp
  have eL2 : (v0 : Int) / 2 ^ T = (L2' : Int) := by rw [hL2]; simp
  have eT : IntKind.i64.wrap (64 - (s : Int)) = (T : Int) := by rw [IntWalk.i64_in _ (by omega)]; omega
  have eT2 : (64 : Int) - (s : Int) = (T : Int) := by omega
  have ei1 : IntKind.i64.wrap ((m : Int) + 2 - 1) = (m : Int) + 2 - 1 := IntWalk.i64_in _ (by omega)
  have ei2 : IntKind.i64.wrap ((m : Int) + 2 - 2) = (m : Int) + 2 - 2 := IntWalk.i64_in _ (by omega)
  have eO1 : bits .or .u64 (H1 : Int) (L1' : Int) = (A : Int) := by rw [bits_or_u64_nat _ _ l1 (by omega), nat_join s _ _ (by rw [hH1]; exact Nat.mul_mod_left _ _) k1, hA]
  have eO2 : bits .or .u64 (H2 : Int) (L2' : Int) = (C : Int) := by rw [bits_or_u64_nat _ _ l2 (by omega), nat_join s _ _ (by rw [hH2]; exact Nat.mul_mod_left _ _) k2, hC]
  have hs0 : (0 : Int) ≤ (s : Int) := by omega
  have hT1 : (0 : Int) ≤ (T : Int) := by omega
  have fA : V W64 xs / (W64 ^ m * 2 ^ T) = A := by
    rw [top_two (by decide) xs hxd m hxl _ hT0, ← HUV.out.1, ← HUV.out.2.1, lead_word hST hT0, hA, hH1, hL1]
  have fC : V W64 ys / (W64 ^ m * 2 ^ T) = C := by
    rw [top_two (by decide) ys hyd m hyl _ hT0, ← HUV.out.2.2.1, ← HUV.out.2.2.2, lead_word hST hT0, hC, hH2, hL2]
  have hK : 0 < W64 ^ m * 2 ^ T := Nat.mul_pos (Nat.pow_pos (by decide)) hT0
  have hfin : A < W64 ∧ C ≤ A ∧ IsLead (V W64 xs) (V W64 ys) A C := by
    refine ⟨?_, ?_, ⟨W64 ^ m * 2 ^ T, V W64 xs % (W64 ^ m * 2 ^ T), V W64 ys % (W64 ^ m * 2 ^ T), hK, Nat.mod_lt _ hK, Nat.mod_lt _ hK, ?_, ?_⟩⟩
    · have h1 : u1 < 2 ^ T := Nat.lt_of_mul_lt_mul_right (a := 2 ^ s) (by rw [← hH1, Nat.mul_comm (2 ^ T), hST]; exact l1)
      have h2 : (u1 + 1) * 2 ^ s ≤ 2 ^ T * 2 ^ s := Nat.mul_le_mul_right _ h1
      rw [Nat.add_mul, Nat.one_mul, ← hH1, Nat.mul_comm (2 ^ T), hST] at h2
      omega
    · rw [← fA, ← fC]; exact Nat.div_le_div_right HLE.out
    · rw [← fA, Nat.mul_comm]; exact (Nat.div_add_mod _ _).symm
    · rw [← fC, Nat.mul_comm]; exact (Nat.div_add_mod _ _).symm
  have HFIN := hid hfin
  clear hT hST hH1 hH2 hL1 hL2 l1 l2 hA hC k1 k2 hpw fA fC hK hfin hT0
  go_wp2_with fail
  go_quiet (fail)
  go_wp2_with fail
  go_quiet (fail)
  go_wp2_with fail
  go_ret2
  exact ⟨A, C, rfl, HFIN.out.1, HFIN.out.2.1, hid HFIN.out.2.2, _, World.drewN_drewN _ _ _⟩
end Go.Proofs.YthkgldpcgmnaiaaDoor

set_option linter.unusedVariables false
set_option linter.unusedSimpArgs false
namespace Go.Proofs.YthkgldpcgmnaiaaDoor
open Go.RowKit Nm

/-- a word times a word and a carry: two words -/
theorem word_step (p x lo hi pl c cy : Nat) (hp : p < W64) (hx : x < W64) (hcy : cy < W64) (h1 : p * x = lo + W64 * hi) (h2 : lo + cy + 0 = pl + W64 * c) : p * x + cy = pl + W64 * (hi + c) ∧ hi + c < W64 := by
  have e : p * x + cy = pl + W64 * (hi + c) := by rw [Nat.mul_add]; omega
  refine ⟨e, Nat.lt_of_not_le fun h => ?_⟩
  have k1 : W64 * W64 ≤ W64 * (hi + c) := Nat.mul_le_mul_left _ h
  have k2 : p * x ≤ (W64 - 1) * (W64 - 1) := Nat.mul_le_mul (by omega) (by omega)
  have k3 : (W64 - 1) * (W64 - 1) + 2 * (W64 - 1) + 1 = W64 * W64 := by decide
  omega

theorem diff_round {W i pl ml bo d bo' a b plus plus' minus minus' Vd Vd' A B vx vy p q x y : Nat} (h1 : a + plus = pl + W * plus') (h2 : b + minus = ml + W * minus') (h3 : d + (ml + bo) = pl + W * bo') (ha : a = p * x) (hb : b = q * y)
    (e : Vd + q * vy + W ^ i * plus = p * vx + W ^ i * (minus + bo)) (hd : Vd' = Vd + W ^ i * d) (hx : A = vx + W ^ i * x) (hy : B = vy + W ^ i * y) :
    Vd' + q * B + W ^ (i + 1) * plus' = p * A + W ^ (i + 1) * (minus' + bo') := by
  have k1 := congrArg (W ^ i * ·) h1
  have k2 := congrArg (W ^ i * ·) h2
  have k3 := congrArg (W ^ i * ·) h3
  simp only [Nat.mul_add] at k1 k2 k3
  rw [hd, hx, hy, Nat.pow_succ, Nat.mul_add, Nat.mul_add, Nat.mul_assoc, Nat.mul_assoc, Nat.mul_add, Nat.mul_add]
  rw [Nat.mul_add] at e
  have m1 : q * (W ^ i * y) = W ^ i * b := by rw [hb, Nat.mul_left_comm]
  have m2 : p * (W ^ i * x) = W ^ i * a := by rw [ha, Nat.mul_left_comm]
  omega

theorem diff_end {N Vd A B plus mb : Nat} (e : Vd + B + N * plus = A + N * mb) (hle : B ≤ A) (hd : Vd < N) (hA : A - B < N) : Vd + B = A := by
  rcases Nat.lt_trichotomy plus mb with h | h | h
  · obtain ⟨t, rfl⟩ : ∃ t, mb = plus + 1 + t := ⟨mb - plus - 1, by omega⟩
    rw [Nat.mul_add, Nat.mul_add, Nat.mul_one] at e
    omega
  · subst h; omega
  · obtain ⟨t, rfl⟩ : ∃ t, plus = mb + 1 + t := ⟨plus - mb - 1, by omega⟩
    rw [Nat.mul_add, Nat.mul_add, Nat.mul_one] at e
    omega

set_option maxRecDepth 100000 in
set_option maxHeartbeats 2000000 in
theorem difference_any (g L cd : Nat) (dc xs ys : List Nat) (ax ay : Option Addr) (cx cy p q : Nat) (w : World) (hrow : IRow w g 38 .u64 dc) (hxr : IRd w .u64 ax L cx xs) (hyr : IRd w .u64 ay L cy ys)
    (hnx : ∀ a, ax = some a → some a.block ≠ some g) (hny : ∀ a, ay = some a → some a.block ≠ some g) (hL : L ≤ dc.length) (hlen : dc.length ≤ 900000) (hLc : L ≤ cd) (hcd : cd ≤ 9223372036854775807)
    (hdc : Dg W64 dc) (hxs : Dg W64 xs) (hys : Dg W64 ys) (hp : p < W64) (hq : q < W64) (hle : q * V W64 ys ≤ p * V W64 xs) (hfit : p * V W64 xs - q * V W64 ys < W64 ^ L) :
    Calls Tryd.prog 90 #[.slice (some ⟨g, 0, none⟩) L cd, .int .u64 p, .slice ax L cx, .int .u64 q, .slice ay L cy] w fun e w' => ∃ dc' : List Nat, e = .returned (.tuple #[]) ∧ IRow w' g 38 .u64 dc' ∧ w.grownBy w' (some g) ∧
      Hid (dc'.length = dc.length ∧ Dg W64 dc' ∧ V W64 (dc'.take L) + q * V W64 ys = p * V W64 xs) := by
  have HLX := hid hxr.len
  have HLY := hid hyr.len
  have hxm := hxr.max
  have hxc := hxr.cap
  have hym := hyr.max
  have hyc := hyr.cap
  have HFIT := hid (And.intro hle hfit)
  clear hle hfit
  go_enter Tryd.func90, Tryd.ntmps90
  go_wp2_with fail
  go_loopw [10, 11, 12, 21] (fun s10 s11 s12 i wr => ∃ (k plus minus bo : Nat) (cu : List Nat), k ≤ L ∧ i = .int .i64 k ∧ s10 = .int .u64 plus ∧ s11 = .int .u64 minus ∧ s12 = .int .u64 bo ∧ plus < W64 ∧ minus < W64 ∧ bo ≤ 1 ∧ IRow wr g 38 .u64 cu ∧ w.grownBy wr (some g) ∧
      Hid (cu.length = dc.length ∧ Dg W64 cu ∧ V W64 (cu.take k) + q * V W64 (ys.take k) + W64 ^ k * plus = p * V W64 (xs.take k) + W64 ^ k * (minus + bo))) (fun _ _ _ i _ => L - (intOf i).toNat)
  case atStart => exact ⟨0, 0, 0, 0, dc, Nat.zero_le _, rfl, rfl, rfl, rfl, by decide, by decide, by omega, hrow, grown_refl _ _, hid ⟨rfl, hdc, by simp⟩⟩
  case round =>
    obtain ⟨k, plus, minus, bo, cu, hk, rfl, rfl, rfl, rfl, hplus, hminus, hbo, hr, hgr, HC⟩ := hrel
    by_cases hlt : k < L
    · obtain ⟨bx, ox, rfl, hcx⟩ := hxr.cel k (by rw [HLX.out]; exact hlt)
      obtain ⟨by', oy, rfl, hcy'⟩ := hyr.cel k (by rw [HLY.out]; exact hlt)
      have hx2 := hgr.cell hcx (hnx ⟨bx, ox, none⟩ rfl)
      have hy2 := hgr.cell hcy' (hny ⟨by', oy, none⟩ rfl)
      obtain ⟨x, hx⟩ : ∃ x, x = xs[k]'(by rw [HLX.out]; exact hlt) := ⟨_, rfl⟩
      obtain ⟨y, hy⟩ : ∃ y, y = ys[k]'(by rw [HLY.out]; exact hlt) := ⟨_, rfl⟩
      rw [← hx] at hx2
      rw [← hy] at hy2
      have hxb : x < W64 := by rw [hx]; exact hxs.get k _
      have hyb : y < W64 := by rw [hy]; exact hys.get k _
      have hvx := V_take_succ (B := W64) xs k (by rw [HLX.out]; exact hlt)
      have hvy := V_take_succ (B := W64) ys k (by rw [HLY.out]; exact hlt)
      rw [← hx] at hvx
      rw [← hy] at hvy
      have hcl : k < cu.length := by rw [HC.out.1]; omega
      have hcc := hr.cell k hcl
      have hfr := hr.free k
      obtain ⟨d0, hd0⟩ : ∃ d0, d0 = cu[k] := ⟨_, rfl⟩
      rw [← hd0] at hcc
      have HVX := hid hvx
      have HVY := hid hvy
      have hk1 : (k : Int) < (L : Int) := by omega
      have hk0 : (0 : Int) ≤ (k : Int) := by omega
      clear hx hy hd0 hcx hcy' hvx hvy
      go_wp2_with fail
      refine (mul64_any p x hp hxb _).mono ?_
      rintro e w' ⟨h1, l1, rfl, hh1, hl1, HM1, rfl⟩
      go_wp2_with (with_reducible refine wl_add64 _ rfl (.tmp 34) (.tmp 35) _ _ rfl _ _ 0 rfl rfl rfl hl1 hplus (by omega) ?_; intro pl c1 hpl hc1 HA1)
      have hs1 := word_step p x l1 h1 pl c1 plus hp hxb hplus HM1.out HA1.out
      have hw1 : IntKind.u64.wrap ((h1 : Int) + c1) = ((h1 + c1 : Nat) : Int) := by have := hs1.2; unfold W64 at this; rw [IntKind.wrap_u64]; omega
      refine (mul64_any q y hq hyb _).mono ?_
      rintro e w' ⟨h2, l2, rfl, hh2, hl2, HM2, rfl⟩
      go_wp2_with (first
        | (with_reducible refine wl_add64 _ rfl (.tmp 52) (.tmp 53) _ _ rfl _ _ 0 rfl rfl rfl hl2 hminus (by omega) ?_; intro ml c2 hml hc2 HA2)
        | (with_reducible refine wl_sub64 _ rfl (.tmp 63) (.tmp 64) (.tmp 65) _ rfl _ _ bo rfl rfl rfl hpl hml hbo ?_; intro dd bo' hdd hbo' HS))
      have hs2 := word_step q y l2 h2 ml c2 minus hq hyb hminus HM2.out HA2.out
      have hw2 : IntKind.u64.wrap ((h2 : Int) + c2) = ((h2 + c2 : Nat) : Int) := by have := hs2.2; unfold W64 at this; rw [IntKind.wrap_u64]; omega
      have hcut : V W64 ((cu.set k dd).take (k + 1)) = V W64 (cu.take k) + W64 ^ k * dd := by
        rw [V_take_succ _ k (by simpa using hcl), List.take_set, List.set_eq_of_length_le (by simp; omega)]
        simp
      refine ⟨⟨k + 1, h1 + c1, h2 + c2, bo', cu.set k dd, by omega, rfl, by first | rfl | rw [hw1] | simp, by first | rfl | rw [hw2] | simp, rfl, hs1.2, hs2.2, hbo', hr.setv k _ dd rfl, grown_trans hgr (grown_setCell _ _ _), hid ⟨by simpa using HC.out.1, HC.out.2.1.set _ _ hdd, ?_⟩⟩, by simp [intOf]; omega⟩
      exact diff_round hs1.1 hs2.1 HS.out rfl rfl HC.out.2.2 hcut HVX.out HVY.out
    · obtain rfl : k = L := by omega
      have hfin := HC.out.2.2
      rw [show ys.take k = ys from List.take_of_length_le (by rw [HLY.out]; exact Nat.le_refl _), show xs.take k = xs from List.take_of_length_le (by rw [HLX.out]; exact Nat.le_refl _)] at hfin
      have hlt2 : V W64 (cu.take k) < W64 ^ k := by
        have := (HC.out.2.1.take k).lt
        rw [List.length_take, Nat.min_eq_left (by rw [HC.out.1]; exact hL)] at this
        exact this
      have hres := hid (diff_end hfin HFIT.out.1 hlt2 HFIT.out.2)
      clear hfin hlt2
      go_wp2_with fail
      go_end0
      exact ⟨cu, rfl, hr, hgr, hid ⟨HC.out.1, HC.out.2.1, hres.out⟩⟩
end Go.Proofs.YthkgldpcgmnaiaaDoor

set_option linter.unusedVariables false
set_option linter.unusedSimpArgs false
namespace Go.Proofs.YthkgldpcgmnaiaaDoor
open Go.RowKit Nm

/-- what Lehmer's steps make of a and c: H and O -/
def Leh (a c H O : Nat) : Prop := O < H ∧ Nat.gcd H O = Nat.gcd a c ∧ H + O < a + c ∧ H ≤ a

set_option maxHeartbeats 2000000 in
theorem restsOf_any (g3 g4 L c3 c4 : Nat) (d3 d4 xs ys : List Nat) (ax ay : Option Addr) (cx cy x0 y0 x1 y1 n : Nat) (w : World) (hr3 : IRow w g3 38 .u64 d3) (hr4 : IRow w g4 38 .u64 d4) (h34 : g3 ≠ g4)
    (hxr : IRd w .u64 ax L cx xs) (hyr : IRd w .u64 ay L cy ys) (hx3 : ∀ p, ax = some p → p.block ≠ g3) (hx4 : ∀ p, ax = some p → p.block ≠ g4) (hy3 : ∀ p, ay = some p → p.block ≠ g3) (hy4 : ∀ p, ay = some p → p.block ≠ g4)
    (hL3 : L ≤ d3.length) (hL4 : L ≤ d4.length) (hl3 : d3.length ≤ 900000) (hl4 : d4.length ≤ 900000) (hc3 : L ≤ c3) (hc4 : L ≤ c4) (hm3 : c3 ≤ 9223372036854775807) (hm4 : c4 ≤ 9223372036854775807)
    (hd3 : Dg W64 d3) (hd4 : Dg W64 d4) (hxs : Dg W64 xs) (hys : Dg W64 ys) (b0 : x0 < W64) (b1 : y0 < W64) (b2 : x1 < W64) (b3 : y1 < W64) (hn : n ≤ 4294967296) (hn1 : 1 ≤ n)
    (A C h o : Nat) (hE : Es A C x0 y0 x1 y1 n h o) (hlead : IsLead (V W64 xs) (V W64 ys) A C) :
    Calls Tryd.prog 80 #[.agg #[.int .u64 x0, .int .u64 y0, .int .u64 x1, .int .u64 y1, .int .i64 n], .slice ax L cx, .slice ay L cy, .slice (some ⟨g3, 0, none⟩) L c3, .slice (some ⟨g4, 0, none⟩) L c4] w
      fun e w' => ∃ (d3' d4' : List Nat) (wa wb : World), e = .returned (.tuple #[]) ∧ IRow w' g3 38 .u64 d3' ∧ IRow w' g4 38 .u64 d4' ∧ w.grownBy wa none ∧ wa.grownBy wb (some g3) ∧ wb.grownBy w' (some g4) ∧
        Hid (d3'.length = d3.length ∧ d4'.length = d4.length ∧ Dg W64 d3' ∧ Dg W64 d4' ∧ Leh (V W64 xs) (V W64 ys) (V W64 (d3'.take L)) (V W64 (d4'.take L))) := by
  obtain ⟨K, a', c', hK, ha, hc, ea, ec⟩ := hlead
  obtain ⟨H, O, l1, l2, l3, l4, l5, l6⟩ := hE.lift hn1 ha hc ea ec
  have hxL : V W64 xs < W64 ^ L := by have := hxs.lt; rw [hxr.len] at this; exact this
  have hHL : H < W64 ^ L := Nat.lt_of_le_of_lt l4 hxL
  have hOL : O < W64 ^ L := Nat.lt_trans l1 hHL
  have HLEH : Hid (Leh (V W64 xs) (V W64 ys) H O) := hid ⟨l1, l2, l3, l4⟩
  have n0 : (0 : Int) ≤ (n : Int) := by omega
  have hgb := World.grownBy_alloc w (.cells #[.int .u64 x0, .int .u64 y0, .int .u64 x1, .int .u64 y1, .int .i64 n] 92) none
  have hbox : Rst (w.alloc (.cells #[.int .u64 x0, .int .u64 y0, .int .u64 x1, .int .u64 y1, .int .i64 n] 92)) w.heap.size x0 y0 x1 y1 n := heap_alloc_new w _
  have hlt3 := hr3.lt
  have hlt4 := hr4.lt
  clear hK ha hc ea ec l1 l2 l3 l4 hE hxL
  rcases Nat.mod_two_eq_zero_or_one n with hp | hp
  · obtain ⟨q1, q2, q3, q4⟩ := l5 hp
    have hpar : (((n : Int) % 2) == 0) = true := by simp; omega
    have HQ := hid (And.intro q2 q4)
    have hD1 := fun W hr hx hy => difference_any g3 L c3 d3 xs ys ax ay cx cy x0 y0 W hr hx hy (fun p hp => by simpa using hx3 p hp) (fun p hp => by simpa using hy3 p hp) hL3 hl3 hc3 hm3 hd3 hxs hys b0 b1 q1 (by rw [← q2]; exact hHL)
    have hD2 := fun W hr hx hy => difference_any g4 L c4 d4 ys xs ay ax cy cx y1 x1 W hr hx hy (fun p hp => by simpa using hy4 p hp) (fun p hp => by simpa using hx4 p hp) hL4 hl4 hc4 hm4 hd4 hys hxs b3 b2 q3 (by rw [← q4]; exact hOL)
    have HD1 := hid hD1
    have HD2 := hid hD2
    have HQ1 := hid (And.intro q1 q3)
    clear hD1 hD2 q1 q2 q3 q4 l5 l6 hp
    obtain ⟨k0, k1, k2, k3, k4, _, _, _, _, _⟩ := hbox.facts
    go_enter Tryd.func80, Tryd.ntmps80
    go_wp2_with fail
    refine (HD1.out _ (hr3.kept hgb (by simp)) (hxr.keep hgb) (hyr.keep hgb)).mono ?_
    rintro e w1 ⟨d3', rfl, hr3', hg1, H3⟩
    have hbox1 := hbox.kept hg1 (by simp; omega)
    obtain ⟨k0, k1, k2, k3, k4, _, _, _, _, _⟩ := hbox1.facts
    go_wp2_with fail
    refine (HD2.out _ ((hr4.kept hgb (by simp)).kept hg1 (by simp; omega)) ((hyr.keep hgb).kept hg1 (.inr fun p hp => by simpa using hy3 p hp)) ((hxr.keep hgb).kept hg1 (.inr fun p hp => by simpa using hx3 p hp))).mono ?_
    rintro e w2 ⟨d4', rfl, hr4', hg2, H4⟩
    go_wp2_with fail
    go_end0
    refine ⟨d3', d4', _, _, rfl, hr3'.kept hg2 (by simp; omega), hr4', hgb, hg1, hg2, hid ⟨H3.out.1, H4.out.1, H3.out.2.1, H4.out.2.1, ?_⟩⟩
    rw [show V W64 (d3'.take L) = H by have := H3.out.2.2; have := HQ.out.1; have := HQ1.out.1; omega, show V W64 (d4'.take L) = O by have := H4.out.2.2; have := HQ.out.2; have := HQ1.out.2; omega]
    exact HLEH.out
  · obtain ⟨q1, q2, q3, q4⟩ := l6 hp
    have hpar : (((n : Int) % 2) == 0) = false := by rw [beq_eq_false_iff_ne]; omega
    have HQ := hid (And.intro q2 q4)
    have hD1 := fun W hr hx hy => difference_any g3 L c3 d3 ys xs ay ax cy cx y0 x0 W hr hx hy (fun p hp => by simpa using hy3 p hp) (fun p hp => by simpa using hx3 p hp) hL3 hl3 hc3 hm3 hd3 hys hxs b1 b0 q1 (by rw [← q2]; exact hHL)
    have hD2 := fun W hr hx hy => difference_any g4 L c4 d4 xs ys ax ay cx cy x1 y1 W hr hx hy (fun p hp => by simpa using hx4 p hp) (fun p hp => by simpa using hy4 p hp) hL4 hl4 hc4 hm4 hd4 hxs hys b2 b3 q3 (by rw [← q4]; exact hOL)
    have HD1 := hid hD1
    have HD2 := hid hD2
    have HQ1 := hid (And.intro q1 q3)
    clear hD1 hD2 q1 q2 q3 q4 l5 l6 hp
    obtain ⟨k0, k1, k2, k3, k4, _, _, _, _, _⟩ := hbox.facts
    go_enter Tryd.func80, Tryd.ntmps80
    go_wp2_with fail
    refine (HD1.out _ (hr3.kept hgb (by simp)) (hyr.keep hgb) (hxr.keep hgb)).mono ?_
    rintro e w1 ⟨d3', rfl, hr3', hg1, H3⟩
    have hbox1 := hbox.kept hg1 (by simp; omega)
    obtain ⟨k0, k1, k2, k3, k4, _, _, _, _, _⟩ := hbox1.facts
    go_wp2_with fail
    refine (HD2.out _ ((hr4.kept hgb (by simp)).kept hg1 (by simp; omega)) ((hxr.keep hgb).kept hg1 (.inr fun p hp => by simpa using hx3 p hp)) ((hyr.keep hgb).kept hg1 (.inr fun p hp => by simpa using hy3 p hp))).mono ?_
    rintro e w2 ⟨d4', rfl, hr4', hg2, H4⟩
    go_wp2_with fail
    go_end0
    refine ⟨d3', d4', _, _, rfl, hr3'.kept hg2 (by simp; omega), hr4', hgb, hg1, hg2, hid ⟨H3.out.1, H4.out.1, H3.out.2.1, H4.out.2.1, ?_⟩⟩
    rw [show V W64 (d3'.take L) = H by have := H3.out.2.2; have := HQ.out.1; have := HQ1.out.1; omega, show V W64 (d4'.take L) = O by have := H4.out.2.2; have := HQ.out.2; have := HQ1.out.2; omega]
    exact HLEH.out
end Go.Proofs.YthkgldpcgmnaiaaDoor

set_option linter.unusedVariables false
set_option linter.unusedSimpArgs false
namespace Go.Proofs.YthkgldpcgmnaiaaDoor
open Go.RowKit Nm

theorem W64_pos : 0 < W64 := by decide
/-- the value of the first n words, if those behind them hold nothing -/
theorem V_take_le {xs : List Nat} {n m : Nat} (hm : m ≤ n) (hn : n ≤ xs.length) (h : V W64 (xs.take n) < W64 ^ m) : V W64 (xs.take m) = V W64 (xs.take n) := by
  have hl : (xs.take n).length = n := by simp; omega
  have e := V_take_drop (B := W64) (xs.take n) m (by omega)
  rw [List.take_take, Nat.min_eq_left hm] at e
  rcases Nat.eq_zero_or_pos (V W64 ((xs.take n).drop m)) with h0 | h0
  · rw [h0] at e; omega
  · have : W64 ^ m * 1 ≤ W64 ^ m * V W64 ((xs.take n).drop m) := Nat.mul_le_mul_left _ h0
    omega
theorem V_take_lt {xs : List Nat} (hd : Dg W64 xs) (n : Nat) (hn : n ≤ xs.length) : V W64 (xs.take n) < W64 ^ n := by
  have := (hd.take n).lt
  rw [List.length_take, Nat.min_eq_left hn] at this
  exact this
/-- the words that trim keeps -/
theorem trim_take (xs : List Nat) (n : Nat) : trimR (xs.take n) = xs.take (trimR (xs.take n)).length := by
  have h := trimR_eq_take (xs.take n)
  have hl := trimR_length_le (xs.take n)
  have hl2 : (xs.take n).length ≤ n := by rw [List.length_take]; omega
  rw [List.take_take, Nat.min_eq_left (by omega)] at h
  exact h
theorem IRow.rdn {w : World} {g : Nat} {e : TypeId} {k : IntKind} {xs : List Nat} (h : IRow w g e k xs) (n c : Nat) (hn : n ≤ xs.length) (hc : n ≤ c) (hm : c ≤ 9223372036854775807) :
    IRd w k (some ⟨g, 0, none⟩) n c (xs.take n) := by
  have := h.rd 0 n c (by omega) hc hm
  simpa using this
theorem grown_sub {a b c : World} {g p : Nat} (h : a.grownBy b (some g)) (k : b.grownBy c (some p)) (hp : p = g ∨ a.heap.size ≤ p) : a.grownBy c (some g) :=
  ⟨k.os.trans h.os, k.tape.trans h.tape, k.output.trans h.output, Nat.le_trans h.size k.size, fun i hi hne =>
    (k.block i (Nat.lt_of_lt_of_le hi h.size) (fun e => by
      cases e
      rcases hp with rfl | hp
      · exact hne rfl
      · omega)).trans (h.block i hi hne)⟩
theorem grown_none {a b c : World} {g : Nat} (h : a.grownBy b (some g)) (k : b.grownBy c none) : a.grownBy c (some g) :=
  grown_trans h (grown_any k _)

theorem tb_kept {w w' : World} {g : Nat} (h : Tb w) (hg : w.grownBy w' (some g)) (hne : g ≠ 0) : Tb w' := fun j hj => hg.cell (h j hj) (by simp; exact fun e => hne e.symm)

/-- the four rows -/
structure G4 (w wr : World) (gx N G n p q r s : Nat) (xs ys rs ss : List Nat) : Prop where
  rx : IRow wr p 38 .u64 xs
  ry : IRow wr q 38 .u64 ys
  rz : IRow wr r 38 .u64 rs
  rv : IRow wr s 38 .u64 ss
  lx : xs.length = N
  ly : ys.length = N
  lr : rs.length = N
  ls : ss.length = N
  dx : Dg W64 xs
  dy : Dg W64 ys
  dr : Dg W64 rs
  ds : Dg W64 ss
  pq : p ≠ q
  pr : p ≠ r
  ps : p ≠ s
  qr : q ≠ r
  qs : q ≠ s
  rs' : r ≠ s
  op : p = gx ∨ w.heap.size ≤ p
  oq : q = gx ∨ w.heap.size ≤ q
  or' : r = gx ∨ w.heap.size ≤ r
  os : s = gx ∨ w.heap.size ≤ s
  grow : w.grownBy wr (some gx)
  nN : n ≤ N
  le : V W64 (ys.take n) ≤ V W64 (xs.take n)
  gcd : Nat.gcd (V W64 (xs.take n)) (V W64 (ys.take n)) = G

section
variable {w wr wr' : World} {gx N G n p q r s : Nat} {xs ys rs ss : List Nat}
theorem G4.keep (h : G4 w wr gx N G n p q r s xs ys rs ss) (hg : wr.grownBy wr' none) : G4 w wr' gx N G n p q r s xs ys rs ss :=
  { h with rx := h.rx.kept hg (by simp), ry := h.ry.kept hg (by simp), rz := h.rz.kept hg (by simp), rv := h.rv.kept hg (by simp), grow := grown_none h.grow hg }
/-- only the words that x has -/
theorem G4.cut (h : G4 w wr gx N G n p q r s xs ys rs ss) : G4 w wr gx N G (trimR (xs.take n)).length p q r s xs ys rs ss ∧ V W64 (xs.take (trimR (xs.take n)).length) = V W64 (xs.take n) ∧ V W64 (ys.take (trimR (xs.take n)).length) = V W64 (ys.take n) := by
  have hl := trimR_length_le (xs.take n)
  have hl2 : (xs.take n).length = n := by rw [List.length_take]; have := h.nN; have := h.lx; omega
  have e1 : V W64 (xs.take (trimR (xs.take n)).length) = V W64 (xs.take n) := by rw [← trim_take, V_trimR]
  have hlt := V_take_lt h.dx (trimR (xs.take n)).length (by have := h.lx; have := h.nN; omega)
  have e2 : V W64 (ys.take (trimR (xs.take n)).length) = V W64 (ys.take n) :=
    V_take_le (by omega) (by have := h.ly; have := h.nN; omega) (by have := h.le; omega)
  exact ⟨{ h with nN := by have := h.nN; omega, le := by rw [e1, e2]; exact h.le, gcd := by rw [e1, e2]; exact h.gcd }, e1, e2⟩
/-- the rest, copied over x -/
theorem copied_rest {xs rs : List Nat} {k N : Nat} (hx : xs.length = N) (hk : k ≤ N) (dx : Dg W64 xs) (dr : Dg W64 rs) (hl : rs.length = k + 1) (hv : V W64 rs < W64 ^ k) :
    (splice xs 0 (rs.take k)).length = N ∧ Dg W64 (splice xs 0 (rs.take k)) ∧ V W64 ((splice xs 0 (rs.take k)).take k) = V W64 rs := by
  have e : splice xs 0 (rs.take k) = rs.take k ++ xs.drop k := by simp [splice, hl]
  have hl2 : (rs.take k).length = k := by rw [List.length_take, hl]; omega
  rw [e]
  refine ⟨by rw [List.length_append, hl2, List.length_drop]; omega, (dr.take k).append (dx.drop k), ?_⟩
  rw [List.take_append_of_le_length (by omega), List.take_take, Nat.min_self]
  have := V_take_le (xs := rs) (n := rs.length) (m := k) (by omega) (Nat.le_refl _) (by rw [List.take_length]; exact hv)
  rw [List.take_length] at this
  exact this
/-- a step of Euclid's algorithm: x is replaced by the rest, and the two change places -/
theorem G4.swap (h : G4 w wr gx N G n p q r s xs ys rs ss) {zs : List Nat} (hz : IRow wr' p 38 .u64 zs) (hg : wr.grownBy wr' (some p)) (hl : zs.length = N) (hd : Dg W64 zs)
    (hv : V W64 (zs.take n) = V W64 (xs.take n) % V W64 (ys.take n)) (hy : 0 < V W64 (ys.take n)) : G4 w wr' gx N G n q p r s ys zs rs ss :=
  { rx := h.ry.kept hg (by simp; exact h.pq.symm), ry := hz, rz := h.rz.kept hg (by simp; exact h.pr.symm), rv := h.rv.kept hg (by simp; exact h.ps.symm),
    lx := h.ly, ly := hl, lr := h.lr, ls := h.ls, dx := h.dy, dy := hd, dr := h.dr, ds := h.ds, pq := h.pq.symm, pr := h.qr, ps := h.qs, qr := h.pr, qs := h.ps, rs' := h.rs',
    op := h.oq, oq := h.op, or' := h.or', os := h.os, grow := grown_sub h.grow hg h.op, nN := h.nN,
    le := by rw [hv]; exact Nat.le_of_lt (Nat.mod_lt _ hy), gcd := by rw [hv, Nat.gcd_comm, ← Nat.gcd_rec, Nat.gcd_comm]; exact h.gcd }
/-- Lehmer's steps: the other two rows take the numbers -/
theorem G4.leh (h : G4 w wr gx N G n p q r s xs ys rs ss) {wa wb : World} {d3 d4 : List Nat} (h3 : IRow wr' r 38 .u64 d3) (h4 : IRow wr' s 38 .u64 d4) (ga : wr.grownBy wa none) (gb : wa.grownBy wb (some r)) (gc : wb.grownBy wr' (some s))
    (l3 : d3.length = rs.length) (l4 : d4.length = ss.length) (e3 : Dg W64 d3) (e4 : Dg W64 d4) (hL : Leh (V W64 (xs.take n)) (V W64 (ys.take n)) (V W64 (d3.take n)) (V W64 (d4.take n))) : G4 w wr' gx N G n r s p q d3 d4 xs ys :=
  { rx := h3, ry := h4, rz := ((h.rx.kept ga (by simp)).kept gb (by simp; exact h.pr)).kept gc (by simp; exact h.ps), rv := ((h.ry.kept ga (by simp)).kept gb (by simp; exact h.qr)).kept gc (by simp; exact h.qs),
    lx := by rw [l3]; exact h.lr, ly := by rw [l4]; exact h.ls, lr := h.lx, ls := h.ly, dx := e3, dy := e4, dr := h.dx, ds := h.dy, pq := h.rs', pr := h.pr.symm, ps := h.qr.symm, qr := h.ps.symm, qs := h.qs.symm, rs' := h.pq,
    op := h.or', oq := h.os, or' := h.op, os := h.oq, grow := grown_sub (grown_sub (grown_none h.grow ga) gb h.or') gc h.os, nN := h.nN,
    le := Nat.le_of_lt hL.1, gcd := hL.2.1.trans h.gcd }
end
theorem IRow.rep (w : World) (e : TypeId) (n : Nat) : IRow (w.alloc (.cells (Array.replicate n (.int .u64 0)) e)) w.heap.size e .u64 (List.replicate n 0) := by
  unfold IRow
  rw [heap_alloc_new]
  simp
theorem rep2 (w : World) (e : TypeId) (n : Nat) : IRow ((w.alloc (.cells (Array.replicate n (.int .u64 0)) e)).alloc (.cells (Array.replicate n (.int .u64 0)) e)).drew w.heap.size e .u64 (List.replicate n 0) ∧
    IRow ((w.alloc (.cells (Array.replicate n (.int .u64 0)) e)).alloc (.cells (Array.replicate n (.int .u64 0)) e)).drew (w.heap.size + 1) e .u64 (List.replicate n 0) ∧
    w.grownBy ((w.alloc (.cells (Array.replicate n (.int .u64 0)) e)).alloc (.cells (Array.replicate n (.int .u64 0)) e)).drew none := by
  have h1 := IRow.rep w e n
  have g1 := World.grownBy_alloc w (.cells (Array.replicate n (.int .u64 0)) e) none
  have h2 := IRow.rep (w.alloc (.cells (Array.replicate n (.int .u64 0)) e)) e n
  have g2 := World.grownBy_alloc (w.alloc (.cells (Array.replicate n (.int .u64 0)) e)) (.cells (Array.replicate n (.int .u64 0)) e) none
  refine ⟨(h1.kept g2 (by simp)).drew, ?_, grown_trans (grown_trans g1 g2) (grown_drew _ none)⟩
  have h3 := h2.drew
  simpa using h3
/-- make of words, where the walk runs it -/
theorem run_make_words {P : Program} (t e : TypeId) (h1 : P.underlying t = some (.slice e)) (h2 : (P.info? e).map (fun i => (i.zero, i.size, i.bytes)) = some (some (.int .u64 0), 1, 8)) (n : Nat) (hn : n ≤ 1000000) (w : World) :
    (Instr.makeSlice t (.int .i64 (n : Int)) (.int .i64 (n : Int))).run P w = .ok (.slice (some ⟨w.heap.size, 0, none⟩) n n) (w.alloc (.cells (Array.replicate n (.int .u64 0)) e)) := by
  obtain ⟨i, hi, hz0, hz1, hz2⟩ := info_parts h2
  have hb : (i.bytes : Int) * (n : Int) ≤ 281474976710656 := by rw [hz2]; omega
  have hr := run_make (P := P) w t e i (.int .u64 0) h1 hi hz0 .i64 .i64 n n (by omega) (by omega) hb (by omega)
  simp only [Int.toNat_natCast] at hr
  rw [hr, hz1]
  have e1 : madeCells (Value.int .u64 0).cells (n * 1) = Array.replicate n (.int .u64 0) := by
    rw [Nat.mul_one, ← Array.toList_inj]
    have := toList_madeCells_one (.int .u64 0) n
    simp at this ⊢
    exact this
  rw [e1]
end Go.Proofs.YthkgldpcgmnaiaaDoor

set_option linter.unusedVariables false
set_option linter.unusedSimpArgs false
namespace Go.Proofs.YthkgldpcgmnaiaaDoor
open Go.RowKit Nm

theorem infoW : (Tryd.prog.info? 38).map (fun i => (i.zero, i.size, i.bytes)) = some (some (.int .u64 0), 1, 8) := by kernel_rfl
/-- what wordsGcd returns: words of the number G -/
def WG (w : World) (gx G : Nat) (e : Ending) (w' : World) : Prop := ∃ p n c zs, e = .returned (.slice p n c) ∧ IRd w' .u64 p n c zs ∧ n ≤ 900000 ∧ Hid (Dg W64 zs ∧ V W64 zs = G) ∧ w.grownBy w' (some gx)

set_option maxRecDepth 100000 in
set_option maxHeartbeats 4000000 in
theorem wordsGcd_any (gx N M Mc : Nat) (bp : Option Addr) (us vs : List Nat) (w : World) (hT : Tb w) (hgT : gx ≠ 0) (hx : IRow w gx 38 .u64 us) (hu : us.length = N) (hy : IRd w .u64 bp M Mc vs) (hM : M ≤ N) (hN : N ≤ 250000)
    (hdu : Dg W64 us) (hdv : Dg W64 vs) (hle : V W64 vs ≤ V W64 us) :
    Calls Tryd.prog 68 #[.slice (some ⟨gx, 0, none⟩) N N, .slice bp M Mc] w (WG w gx (Nat.gcd (V W64 us) (V W64 vs))) := by
  have hmk := run_make_words (P := Tryd.prog) 59 38 Tryd.underlying59 infoW N (by omega)
  go_enter Tryd.func68, Tryd.ntmps68
  go_upto_region 1 with fail
  go_cut [5, 6] from 14 to 17 (fun x y wc => x = .slice (some ⟨gx, 0, none⟩) N N ∧ y = .slice (some ⟨w.heap.size, 0, none⟩) N N ∧ IRow wc w.heap.size 38 .u64 (List.replicate N 0) ∧ w.grownBy wc none)
  case first =>
    go_region
    all_goals
      go_wp2_with fail
      go_meet
      exact ⟨rfl, rfl, IRow.rep w _ N, grown_trans (World.grownBy_alloc w _ none) (grown_drew _ none)⟩
  case rest =>
    obtain ⟨rfl, rfl, hr1, hg1⟩ := hcut
    obtain ⟨g1, hg1e⟩ : ∃ g, g = w.heap.size := ⟨_, rfl⟩
    rw [← hg1e] at hr1 ⊢
    have HG1 := hid hg1e
    clear hg1e
    go_upto_region 3 with (refine wl_copy _ rfl (.tmp 18) (.tmp 19) 59 59 rfl 38 Tryd.underlying59 (by kernel_rfl) .u64 _ _ _ _ _ _ rfl rfl g1 0 38 (List.replicate N 0) vs hr1 (fun _ => rfl) (hy.keep hg1) (by simp) ?_; intro w2 hr2 hg2)
    have hw2 : w.grownBy w2 none := grown_new hg1 hg2 (fun g e => by cases e; rw [HG1.out]; exact Nat.le_refl _)
    go_simp
    go_cut [7, 8] from 21 to 26 (fun x y wc => ∃ g2 g3 : Nat, x = .slice (some ⟨g2, 0, none⟩) N N ∧ y = .slice (some ⟨g3, 0, none⟩) N N ∧ IRow wc g2 38 .u64 (List.replicate N 0) ∧ IRow wc g3 38 .u64 (List.replicate N 0) ∧ g2 ≠ g3 ∧ w2.heap.size ≤ g2 ∧ w2.heap.size ≤ g3 ∧ w2.grownBy wc none)
    case first =>
      go_region
      all_goals
        go_wp2_with fail
        go_meet
        have hx2 := rep2 w2 38 N
        first
          | exact ⟨_, _, rfl, rfl, hx2.1, hx2.2.1, by omega, by omega, by omega, hx2.2.2⟩
          | exact ⟨_, _, rfl, rfl, hx2.2.1, hx2.1, by omega, by omega, by omega, hx2.2.2⟩
    case rest =>
      obtain ⟨g2, g3, rfl, rfl, hr3, hr4, h23, h2, h3, hg3⟩ := hcut
      have hsp : splice (List.replicate N 0) 0 (vs.take N) = vs ++ List.replicate (N - M) 0 := by
        have := hy.len
        rw [List.take_of_length_le (by omega)]
        simp [splice, this]
      rw [hsp] at hr2
      have hgxw := hx.lt
      have hy0 : V W64 ((vs ++ List.replicate (N - M) 0).take N) = V W64 vs := by
        have := hy.len
        rw [List.take_of_length_le (by simp; omega), V_append, V_zeros]; simp
      have hx0 : V W64 (us.take N) = V W64 us := by rw [List.take_of_length_le (by omega)]
      have hz0 : Dg W64 (List.replicate N 0) := Dg.zeros W64_pos N
      have H0 : G4 w wc gx N (Nat.gcd (V W64 us) (V W64 vs)) N gx g1 g2 g3 us (vs ++ List.replicate (N - M) 0) (List.replicate N 0) (List.replicate N 0) :=
        { rx := hx.kept (grown_trans hw2 hg3) (by simp), ry := hr2.kept hg3 (by simp), rz := hr3, rv := hr4, lx := hu, ly := by have := hy.len; simp; omega, lr := by simp, ls := by simp,
          dx := hdu, dy := hdv.append (Dg.zeros W64_pos _), dr := hz0, ds := hz0, pq := by have := HG1.out; omega, pr := by have := hw2.size; omega, ps := by have := hw2.size; omega, qr := by have := hr2.lt; omega, qs := by have := hr2.lt; omega, rs' := h23,
          op := .inl rfl, oq := .inr (by rw [HG1.out]; exact Nat.le_refl _), or' := .inr (by have := hw2.size; omega), os := .inr (by have := hw2.size; omega), grow := grown_any (grown_trans hw2 hg3) _, nN := Nat.le_refl _,
          le := by rw [hx0, hy0]; exact hle, gcd := by rw [hx0, hy0] }
      have HH0 := hid H0
      generalize Nat.gcd (V W64 us) (V W64 vs) = G at *
      clear H0 hmk hsp hy0 hx0 hz0 hr1 hg1 hr2 hg2 hw2 hr3 hr4 h23 h2 h3 hg3 HG1 hy hx hu hdu hdv hle hM hgxw
      generalize vs ++ List.replicate (N - M) 0 = vs2 at *
      go_wp2_with fail
      go_loopg [5, 6, 7, 8] (V W64 (us.take N) + V W64 (vs2.take N)) (fun k x y z v wr => ∃ (n p q r s : Nat) (xs ys rs ss : List Nat), x = .slice (some ⟨p, 0, none⟩) n N ∧ y = .slice (some ⟨q, 0, none⟩) n N ∧ z = .slice (some ⟨r, 0, none⟩) n N ∧ v = .slice (some ⟨s, 0, none⟩) n N ∧
        Hid (G4 w wr gx N G n p q r s xs ys rs ss ∧ k = V W64 (xs.take n) + V W64 (ys.take n)))
      case atStart => exact ⟨N, gx, g1, g2, g3, us, vs2, _, _, rfl, rfl, rfl, rfl, hid ⟨HH0.out, rfl⟩⟩
      case round =>
        clear HH0
        obtain ⟨n, p, q, r, s, xs, ys, rs, ss, rfl, rfl, rfl, rfl, HR⟩ := hrel
        have hnN : n ≤ N := HR.out.1.nN
        have T1 := hid (trim64 (some ⟨p, 0, none⟩) n N (xs.take n) wr (IRow.rdn HR.out.1.rx n N (by rw [HR.out.1.lx]; exact hnN) hnN (by omega)))
        obtain ⟨hc1, hc2, hc3⟩ := HR.out.1.cut
        have hk : gk = V W64 (xs.take (trimR (xs.take n)).length) + V W64 (ys.take (trimR (xs.take n)).length) := by rw [hc2, hc3]; exact HR.out.2
        have hcan := Can_trimR (HR.out.1.dx.take n)
        rw [trim_take] at hcan
        generalize (trimR (xs.take n)).length = nn at *
        have H1 := hid hc1
        have HK := hid hk
        have HCAN := hid hcan
        have hnn : nn ≤ N := hc1.nN
        have hn0 : (0 : Int) ≤ (nn : Int) := by omega
        have hn1 : (nn : Int) ≤ (N : Int) := by omega
        clear hc1 hc2 hc3 hk hcan HR
        go_upto_region 5 with (go_at_call 58; (with_reducible refine (T1.out).mono ?_); rintro e w' ⟨rfl, rfl⟩)
        go_quiet (fail)
        have H2 := hid (H1.out.keep (grown_drewN wr nq none))
        clear H1 T1
        generalize wr.drewN nq = wz at *
        have T2 := hid (trim64 (some ⟨q, 0, none⟩) nn N (ys.take nn) wz (IRow.rdn H2.out.ry nn N (by rw [H2.out.ly]; exact hnn) hnn (by omega)))
        have hyv : V W64 (ys.take (trimR (ys.take nn)).length) = V W64 (ys.take nn) := by rw [← trim_take, V_trimR]
        have hcan := Can_trimR (H2.out.dy.take nn)
        rw [trim_take] at hcan
        have hmn : (trimR (ys.take nn)).length ≤ nn := by
          have := trimR_length_le (ys.take nn)
          have h2 : (ys.take nn).length ≤ nn := by rw [List.length_take]; omega
          omega
        generalize (trimR (ys.take nn)).length = m at *
        have HY := hid hyv
        have HCY := hid hcan
        clear hyv hcan
        rcases Nat.eq_zero_or_pos m with hm0 | hm0
        · subst hm0
          have hfin : V W64 (xs.take nn) = G := by
            have := H2.out.gcd
            rw [← HY.out] at this
            simpa using this
          have HF := hid hfin
          clear hfin
          go_wp2_with (go_at_call 58; (with_reducible refine (T2.out).mono ?_); rintro e w' ⟨rfl, rfl⟩)
          go_ret
          exact ⟨_, nn, N, xs.take nn, rfl, IRow.rdn H2.out.rx nn N (by rw [H2.out.lx]; exact hnn) hnn (by omega), by omega, hid ⟨H2.out.dx.take nn, HF.out⟩, H2.out.grow⟩
        rcases Nat.lt_or_ge 1 m with hm1 | hm1
        rotate_left
        · obtain rfl : m = 1 := by omega
          have hyl : 0 < ys.length := by rw [H2.out.ly]; omega
          have hcell := H2.out.ry.cell 0 hyl
          have hd : ys[0] < W64 := H2.out.dy.get 0 hyl
          have hvy : V W64 (ys.take 1) = ys[0] := by
            have := V_take_succ (B := W64) ys 0 hyl
            simpa using this
          have hd0 : 0 < ys[0] := by
            refine Nat.pos_of_ne_zero fun e => HCY.out.2 ?_
            rw [List.take_succ_eq_append_getElem hyl, e]; simp
          generalize ys[0] = d at *
          have D1 := divW_any p nn N xs d wz.drew H2.out.rx.drew (by rw [H2.out.lx]; exact hnn) hnn (by omega) (by rw [H2.out.lx]; omega) H2.out.dx hd0 hd
          have hx5 : V W64 (xs.take nn) % d < d := Nat.mod_lt _ hd0
          have hgg : Nat.gcd d (V W64 (xs.take nn) % d) = G := by
            rw [Nat.gcd_comm, ← Nat.gcd_rec, Nat.gcd_comm, ← hvy, HY.out]; exact H2.out.gcd
          have hGd : G ≤ d := by rw [← hgg]; exact Nat.gcd_le_left _ hd0
          generalize V W64 (xs.take nn) % d = x5 at *
          have hx5W : x5 < W64 := Nat.lt_trans hx5 hd
          have D2 : ∀ w5, wz.drew.grownBy w5 (some p) → Calls Tryd.prog 64 #[.int .u64 d, .int .u64 x5] w5 fun e w' => e = .returned (.int .u64 G) ∧ w5 = w' := fun w5 hg5 => by
            have := wordGcd_any d x5 hd hx5W w5 (tb_kept hT (grown_sub (grown_none H2.out.grow (grown_drew _ none)) hg5 H2.out.op) hgT)
            rwa [hgg] at this
          have HD1 := hid D1
          have HD2 := hid D2
          have HGW : Hid (G < W64) := hid (by omega)
          have HPQ := hid H2.out.pq
          have hcd : wz.drew.cell? ⟨q, 0, none⟩ = some (.int .u64 d) := hcell
          clear D1 D2 hx5 hgg hGd hx5W hvy hyl hd hd0 HY HCY
          go_upto_region 11 with (go_at_call 58; (with_reducible refine (T2.out).mono ?_); rintro e w' ⟨rfl, rfl⟩)
          go_region_held3 (fun w' => w'.cell? ⟨q, 0, none⟩ = some (.int .u64 d)) (first | assumption | (exact hg5.cell hcd (by simp; exact fun e => HPQ.out e.symm)) | (refine (World.grownBy_alloc _ _ none).cell ?_ (by simp); exact hg5.cell hcd (by simp; exact fun e => HPQ.out e.symm)))
            (first
              | (go_at_call 66; (with_reducible refine (HD1.out).mono ?_); rintro e w5 ⟨cur5, rfl, hr5, hg5, HC5⟩)
              | (go_at_call 64; (with_reducible refine (HD2.out _ hg5).mono ?_); rintro e w' ⟨rfl, rfl⟩))
          go_wp2
          go_ret
          exact ⟨_, 1, 1, [G], rfl, one_rd w5 _ _ _ G rfl, by omega, hid ⟨Dg.cons HGW.out Dg.nil, by simp⟩, grown_none (grown_sub (grown_none H2.out.grow (grown_drew _ none)) hg5 H2.out.op) (World.grownBy_alloc _ _ _)⟩
        · obtain ⟨mm, rfl⟩ : ∃ mm, m = mm + 2 := ⟨m - 2, by omega⟩
          obtain ⟨k, rfl⟩ : ∃ k, nn = k + 2 := ⟨nn - 2, by omega⟩
          have hxr := IRow.rdn H2.out.rx (k + 2) N (by rw [H2.out.lx]; exact hnn) hnn (by omega)
          have hyr := IRow.rdn H2.out.ry (k + 2) N (by rw [H2.out.ly]; exact hnn) hnn (by omega)
          have htop : ∀ t, (xs.take (k + 2))[k + 1]? = some t → 0 < t := fun t ht => by
            refine Nat.pos_of_ne_zero fun e => HCAN.out.2 ?_
            rw [List.getLast?_eq_getElem?, hxr.len, ← e]; exact ht
          have L1 := hid (leading_any (some ⟨p, 0, none⟩) (some ⟨q, 0, none⟩) k N N (xs.take (k + 2)) (ys.take (k + 2)) wz hxr hyr (H2.out.dx.take _) (H2.out.dy.take _) (by omega) htop H2.out.le)
          have HXR := hid hxr
          have HYR := hid hyr
          clear hxr hyr htop
          have c0 : (((mm : Int) + 2) == 0) = false := by simp; omega
          have c1 : (((mm : Int) + 2) == 1) = false := by simp; omega
          go_upto_region 13 with (first
            | (go_at_call 58; (with_reducible refine (T2.out).mono ?_); rintro e w' ⟨rfl, rfl⟩)
            | (go_at_call 79; (with_reducible refine (L1.out).mono ?_); rintro e w' ⟨A, C, rfl, hA, hC, HLD, nq, rfl⟩)
            | (go_at_call 78; (with_reducible refine (euclid_any A C hA hC _).mono ?_); rintro e w3 ⟨x0, y0, x1, y1, t, rfl, b0, b1, b2, b3, ht, HE, hg3⟩))
          have hb : Rst (w3.alloc (.cells #[.int .u64 x0, .int .u64 y0, .int .u64 x1, .int .u64 y1, .int .i64 t] 92)) w3.heap.size x0 y0 x1 y1 t := heap_alloc_new w3 _
          have H3 := hid (((H2.out.keep (grown_drewN wz nq none)).keep hg3).keep (World.grownBy_alloc w3 (.cells #[.int .u64 x0, .int .u64 y0, .int .u64 x1, .int .u64 y1, .int .i64 t] 92) none))
          clear H2 L1 T2 HXR HYR hg3
          generalize hwb : w3.alloc (.cells #[.int .u64 x0, .int .u64 y0, .int .u64 x1, .int .u64 y1, .int .i64 t] 92) = wb at *
          clear hwb
          generalize w3.heap.size = gb at *
          obtain ⟨f0, f1, f2, f3, f4, _⟩ := hb.facts
          clear hb
          have hxr := IRow.rdn H3.out.rx (k + 2) N (by rw [H3.out.lx]; exact hnn) hnn (by omega)
          have hyr := IRow.rdn H3.out.ry (k + 2) N (by rw [H3.out.ly]; exact hnn) hnn (by omega)
          have ht0 : (0 : Int) ≤ (t : Int) := by omega
          by_cases ht1 : t = 0
          · have hte : (((t : Int) == 0)) = true := by simp; omega
            have hyr2 := IRow.rdn H3.out.ry (mm + 2) N (by rw [H3.out.ly]; omega) (by omega) (by omega)
            have htop : ∀ t, (ys.take (mm + 2))[mm + 1]? = some t → 0 < t := fun t ht => by
              refine Nat.pos_of_ne_zero fun e => HCY.out.2 ?_
              rw [List.getLast?_eq_getElem?, hyr2.len, ← e]; exact ht
            have hypos : 0 < V W64 (ys.take (mm + 2)) := HCY.out.pos W64_pos (fun e => by
              have := congrArg List.length e
              rw [hyr2.len] at this; simp at this)
            have DV := hid (divide_len (some ⟨p, 0, none⟩) (some ⟨q, 0, none⟩) (k + 2) mm N N (xs.take (k + 2)) (ys.take (mm + 2)) wb hxr hyr2 (H3.out.dx.take _) (H3.out.dy.take _) hmn (by omega) (by omega) htop)
            have HYP := hid hypos
            clear ht1 hxr hyr hyr2 htop hypos
            go_wp2_with (first
              | (go_at_call 69; (with_reducible refine (DV.out).mono ?_); rintro e w5 ⟨a1, a2, n1, n2, qs, rs', rfl, hq5, hr5, hn15, hn25, HDV, hg5⟩)
              | (refine wl_copy _ rfl (.tmp 76) (.tmp 77) 59 59 rfl 38 Tryd.underlying59 (by kernel_rfl) .u64 _ _ _ _ _ _ rfl rfl p 0 38 xs rs' (H3.out.rx.kept hg5 (by simp)) (fun _ => rfl) hr5 (by rw [H3.out.lx]; omega) ?_; intro w6 hr6 hg6))
            obtain ⟨_, v1, _, v2, v3⟩ := HDV.out
            have v4 : V W64 rs' < V W64 (ys.take (mm + 2)) := by rw [v2]; exact Nat.mod_lt _ HYP.out
            rw [HY.out] at v2 v4
            have v5 := V_take_lt H3.out.dy (k + 2) (by rw [H3.out.ly]; exact hnn)
            obtain ⟨c1, c2, c3⟩ := copied_rest H3.out.lx hnn H3.out.dx v1 v3 (Nat.lt_trans v4 v5)
            have v6 := H3.out.le
            have v7 := HK.out
            have v8 : 0 < V W64 (ys.take (k + 2)) := by rw [← HY.out]; exact HYP.out
            have HS := hid ((H3.out.keep hg5).swap hr6 hg6 c1 c2 (by rw [c3, v2]) v8)
            have HC3 := hid c3
            go_roundg (V W64 (ys.take (k + 2)) + V W64 rs')
            case measure => omega
            case rel => exact ⟨k + 2, q, p, r, s, ys, _, rs, ss, rfl, rfl, rfl, rfl, hid ⟨HS.out, by rw [HC3.out]⟩⟩
          · have hte : (((t : Int) == 0)) = false := by simp; omega
            obtain ⟨h, o, hE⟩ := HE.out
            have RO := hid (restsOf_any r s (k + 2) N N rs ss (xs.take (k + 2)) (ys.take (k + 2)) (some ⟨p, 0, none⟩) (some ⟨q, 0, none⟩) N N x0 y0 x1 y1 t wb H3.out.rz H3.out.rv H3.out.rs' hxr hyr (fun a e => by cases e; exact H3.out.pr) (fun a e => by cases e; exact H3.out.ps) (fun a e => by cases e; exact H3.out.qr) (fun a e => by cases e; exact H3.out.qs)
              (by rw [H3.out.lr]; exact hnn) (by rw [H3.out.ls]; exact hnn) (by rw [H3.out.lr]; omega) (by rw [H3.out.ls]; omega) hnn hnn (by omega) (by omega) H3.out.dr H3.out.ds (H3.out.dx.take _) (H3.out.dy.take _) b0 b1 b2 b3 ht (by omega) A C h o hE HLD.out)
            clear ht1 hxr hyr hE
            go_wp2_with (go_at_call 80; (with_reducible refine (RO.out).mono ?_); rintro e w5 ⟨d3, d4, wa, wc5, rfl, hr5, hr6, hga, hgb5, hgc, HD⟩)
            obtain ⟨l3, l4, e3, e4, hL⟩ := HD.out
            have HS := hid (H3.out.leh hr5 hr6 hga hgb5 hgc l3 l4 e3 e4 hL)
            have v1 := hL.2.2.1
            have v7 := HK.out
            go_roundg (V W64 (d3.take (k + 2)) + V W64 (d4.take (k + 2)))
            case measure => omega
            case rel => exact ⟨k + 2, r, s, p, q, d3, d4, xs, ys, rfl, rfl, rfl, rfl, hid ⟨HS.out, rfl⟩⟩
end Go.Proofs.YthkgldpcgmnaiaaDoor

set_option linter.unusedVariables false
set_option linter.unusedSimpArgs false
namespace Go.Proofs.YthkgldpcgmnaiaaDoor
open Go.RowKit Nm

/-- a call returns the valid Nat of G -/
def NPost (w : World) (G : Nat) (e : Ending) (w' : World) : Prop := ∃ p c, e = .returned (.slice p (dg 65536 G).length c) ∧ IRd w' .u16 p (dg 65536 G).length c (dg 65536 G) ∧ w.grownBy w' none

theorem Tb.lt {w : World} (h : Tb w) : 0 < w.heap.size := World.block_lt_of_cell? _ _ (h 0 (by omega))
/-- the two numbers in their order -/
structure Gs (w : World) (p q : Option Addr) (n c m d : Nat) (us vs : List Nat) (G : Nat) : Prop where
  rx : IRd w .u16 p n c us
  ry : IRd w .u16 q m d vs
  cx : Nm.Can 65536 us
  cy : Nm.Can 65536 vs
  le : V 65536 vs ≤ V 65536 us
  gcd : Nat.gcd (V 65536 us) (V 65536 vs) = G
  hn : n ≤ 800000

set_option maxHeartbeats 4000000 in
theorem natGcd_any (a b : Option Addr) (n m c d : Nat) (xs ys : List Nat) (w : World) (hT : Tb w) (h : IRd w .u16 a n c xs) (k : IRd w .u16 b m d ys) (hx : Dg 65536 xs) (hy : Dg 65536 ys) (hn : n ≤ 800000) (hm : m ≤ 800000) :
    Calls Tryd.prog 45 #[.slice a n c, .slice b m d] w (NPost w (Nat.gcd (V 65536 xs) (V 65536 ys))) := by
  have ht := h.take (trimR xs).length (by rw [← h.len]; exact trimR_length_le xs)
  have kt := k.take (trimR ys).length (by rw [← k.len]; exact trimR_length_le ys)
  rw [← trimR_eq_take] at ht kt
  have hcx := Can_trimR hx
  have hcy := Can_trimR hy
  have hvx := V_trimR (B := 65536) xs
  have hvy := V_trimR (B := 65536) ys
  have hnl : (trimR xs).length ≤ n := by rw [← h.len]; exact trimR_length_le xs
  have hml : (trimR ys).length ≤ m := by rw [← k.len]; exact trimR_length_le ys
  have R1 := hid (trim16 a n c xs w h)
  have R2 := hid (trim16 b m d ys w k)
  rw [← hvx, ← hvy]
  generalize trimR xs = us at *
  generalize trimR ys = vs at *
  have hnl8 : us.length ≤ 800000 := by omega
  have hml8 : vs.length ≤ 800000 := by omega
  clear hvx hvy h k hnl hml hx hy
  have R3 := natCmp_any a b us.length vs.length c d us vs w ht kt hcx.1 hcy.1
  have A1 : ∀ wc, w.grownBy wc none → V 65536 vs ≤ V 65536 us → Gs wc a b us.length c vs.length d us vs (Nat.gcd (V 65536 us) (V 65536 vs)) := fun wc hg hle => ⟨ht.keep hg, kt.keep hg, hcx, hcy, hle, rfl, hnl8⟩
  have A2 : ∀ wc, w.grownBy wc none → V 65536 us ≤ V 65536 vs → Gs wc b a vs.length d us.length c vs us (Nat.gcd (V 65536 us) (V 65536 vs)) := fun wc hg hle => ⟨kt.keep hg, ht.keep hg, hcy, hcx, hle, Nat.gcd_comm _ _, hml8⟩
  generalize Nat.gcd (V 65536 us) (V 65536 vs) = G at *
  have HA1 := hid A1
  have HA2 := hid A2
  clear A1 A2 hcx hcy ht kt
  generalize us.length = lx at *
  generalize vs.length = ly at *
  have cut1 : Hid (∃ z : Int, cmpI (V 65536 us : Nat) (V 65536 vs : Nat) = z ∧ ((z < 0 ∧ V 65536 us ≤ V 65536 vs) ∨ (¬ z < 0 ∧ V 65536 vs ≤ V 65536 us))) := hid (by
    rcases Nat.lt_or_ge (V 65536 us) (V 65536 vs) with hl | hl
    · exact ⟨-1, cmpI_lt hl, .inl ⟨by omega, by omega⟩⟩
    · rcases Nat.eq_or_lt_of_le hl with he | hl2
      · exact ⟨0, by rw [he]; exact cmpI_eq _, .inr ⟨by omega, hl⟩⟩
      · exact ⟨1, cmpI_gt hl2, .inr ⟨by omega, hl⟩⟩)
  obtain ⟨z, hz, hcase⟩ := cut1.out
  rw [hz] at R3
  have HR3 := hid R3
  clear R3 hz cut1
  go_enter Tryd.func45, Tryd.ntmps45
  go_upto_if 13 with (first
    | (go_at_call 61; (with_reducible refine (R1.out).mono ?_); rintro e w' ⟨rfl, rfl⟩)
    | (go_at_call 61; (with_reducible refine (R2.out).mono ?_); rintro e w' ⟨rfl, rfl⟩)
    | (go_at_call 62; (with_reducible refine (HR3.out).mono ?_); rintro e w1 ⟨rfl, hg1⟩))
  go_cut [0, 1] from 14 to 15 (fun x y wc => ∃ (p q : Option Addr) (n c m d : Nat) (us vs : List Nat), x = .slice p n c ∧ y = .slice q m d ∧ Hid (Gs wc p q n c m d us vs G) ∧ w.grownBy wc none)
  case first =>
    rcases hcase with ⟨hz, hle⟩ | ⟨hz, hle⟩
    · have H := hid (HA2.out w1 hg1 hle)
      clear hle
      go_wp2_with fail
      go_meet
      exact ⟨_, _, _, _, _, _, _, _, rfl, rfl, H, hg1⟩
    · have H := hid (HA1.out w1 hg1 hle)
      clear hle
      go_wp2_with fail
      go_meet
      exact ⟨_, _, _, _, _, _, _, _, rfl, rfl, H, hg1⟩
  case rest =>
    obtain ⟨p, q, n, c, m, d, us, vs, rfl, rfl, HG, hgw⟩ := hcut
    clear HA1 HA2 HR3 R1 R2 hcase
    have hTc := hT.keep hgw
    have hn8 := HG.out.hn
    have hlu := HG.out.rx.len
    have hlv := HG.out.ry.len
    have hmn : m ≤ n := by
      rw [← hlu, ← hlv]
      refine Nat.le_of_not_lt fun hlt => ?_
      have := Nm.Can.lt_of_length (B := 65536) (by omega) HG.out.cx.1 HG.out.cy hlt
      have := HG.out.le
      omega
    have hcap := HG.out.rx.cap
    have hmax := HG.out.rx.max
    have kcap := HG.out.ry.cap
    have kmax := HG.out.ry.max
    have HLU := hid hlu
    have HLV := hid hlv
    clear hlu hlv
    rcases Nat.eq_zero_or_pos m with h0 | h0
    · subst h0
      have hv : vs = [] := List.eq_nil_of_length_eq_zero HLV.out
      have hG : V 65536 us = G := by have := HG.out.gcd; rw [hv] at this; simpa using this
      have e := eq_dg (by omega) HG.out.cx
      rw [hG] at e
      have HE := hid e
      clear e hG hv
      go_wp2_with (go_at_call 63; refine (clone_any _ _ _ us _ HG.out.rx (by omega)).mono ?_; rintro e w2 ⟨rfl, hr2, hg2⟩)
      go_ret
      have hrd := hr2.rd0 (by rw [HLU.out]; omega)
      have hl : (dg 65536 G).length = n := by rw [← HE.out]; exact HLU.out
      exact ⟨_, n, by rw [hl]; rfl, by rw [hl, ← HE.out]; rwa [HLU.out] at hrd, grown_trans hgw hg2⟩
    have m0 : ((m : Int) == 0) = false := by simp; omega
    have hvpos : 0 < V 65536 vs := HG.out.cy.pos (by omega) (fun e => by have := HLV.out; rw [e] at this; simp at this; omega)
    by_cases h4 : n ≤ 4
    · have n4 : (n : Int) ≤ 4 := by omega
      have hxb : V 65536 us < W64 := by rw [W64_eq]; exact V_word HG.out.cx.1 4 (by rw [HLU.out]; exact h4)
      have hyb : V 65536 vs < W64 := by rw [W64_eq]; exact V_word HG.out.cy.1 4 (by rw [HLV.out]; omega)
      have W1 := word_any p n c us wc HG.out.rx HG.out.cx.1 h4
      have W2 := word_any q m d vs wc HG.out.ry HG.out.cy.1 (by omega)
      have W3 := wordGcd_any (V 65536 us) (V 65536 vs) hxb hyb wc hTc
      have hgg := HG.out.gcd
      rw [hgg] at W3
      have hGb : G < W64 := by rw [← hgg]; exact Nat.lt_of_le_of_lt (Nat.gcd_le_right _ hvpos) hyb
      generalize V 65536 us = X at *
      generalize V 65536 vs = Y at *
      have K1 := hid W1
      have K2 := hid W2
      have K3 := hid W3
      clear W1 W2 W3 hgg hxb hyb hvpos
      have HGB := hid hGb
      clear hGb
      go_wp2_with (first
        | (go_at_call 65; (with_reducible refine (K1.out).mono ?_); rintro e w' ⟨rfl, rfl⟩)
        | (go_at_call 65; (with_reducible refine (K2.out).mono ?_); rintro e w' ⟨rfl, rfl⟩)
        | (go_at_call 64; (with_reducible refine (K3.out).mono ?_); rintro e w' ⟨rfl, rfl⟩)
        | (go_at_call 21; (with_reducible refine (of_at _ G rfl HGB.out _).mono ?_); rintro e w4 ⟨p2, c2, rfl, hr4, hg4⟩))
      go_ret
      exact ⟨p2, c2, rfl, hr4, grown_trans hgw hg4⟩
    · have n4 : ¬ (n : Int) ≤ 4 := by omega
      by_cases h5 : m ≤ 4
      · have m4 : (m : Int) ≤ 4 := by omega
        have hyb : V 65536 vs < W64 := by rw [W64_eq]; exact V_word HG.out.cy.1 4 (by rw [HLV.out]; omega)
        have K1 := hid (word_any q m d vs wc HG.out.ry HG.out.cy.1 h5)
        have K2 := hid (pack_any p n c us wc HG.out.rx HG.out.cx.1 (by omega))
        generalize hyv : V 65536 vs = Y at *
        have HY := hid hyv
        clear hyv
        go_wp2_with (first
          | (go_at_call 65; (with_reducible refine (K1.out).mono ?_); rintro e w' ⟨rfl, rfl⟩)
          | (go_at_call 67; (with_reducible refine (K2.out).mono ?_); rintro e w1 ⟨L, zs, rfl, hr1, HZ, hg1⟩))
        have hLz := HZ.out.2.1
        have hLb : L ≤ 250000 := by have := HZ.out.1; omega
        have hVz : V W64 (zs.take L) = V 65536 us := by rw [List.take_of_length_le (by rw [hLz]; exact Nat.le_refl _)]; exact HZ.out.2.2.1
        have D1 := divW_any wc.heap.size L L zs Y w1 hr1 (by omega) (Nat.le_refl _) (by omega) (by omega) HZ.out.2.2.2 hvpos hyb
        rw [hVz] at D1
        have hrb : V 65536 us % Y < W64 := Nat.lt_trans (Nat.mod_lt _ hvpos) hyb
        have hgg : Nat.gcd Y (V 65536 us % Y) = G := by
          rw [Nat.gcd_comm, ← Nat.gcd_rec, Nat.gcd_comm, ← HY.out]; exact HG.out.gcd
        have hGb : G < W64 := by rw [← hgg]; exact Nat.lt_of_le_of_lt (Nat.gcd_le_left _ hvpos) hyb
        have G1 : ∀ w2, w1.grownBy w2 (some wc.heap.size) → wc.grownBy w2 none := fun w2 hg2 => grown_new hg1 hg2 (fun g' e' => by cases e'; exact Nat.le_refl _)
        have W3 : ∀ w2, wc.grownBy w2 none → Calls Tryd.prog 64 #[.int .u64 Y, .int .u64 (V 65536 us % Y : Nat)] w2 fun e w' => e = .returned (.int .u64 G) ∧ w2 = w' := fun w2 hg2 => by
          have := wordGcd_any Y (V 65536 us % Y) hyb hrb w2 (hTc.keep hg2)
          rwa [hgg] at this
        generalize V 65536 us % Y = R at *
        have HD1 := hid D1
        have HG1 := hid G1
        have HW3 := hid W3
        have HGB := hid hGb
        clear D1 G1 W3 hGb hgg hrb hVz hLz hyb hvpos hr1
        go_wp2_with fail
        refine HD1.out.mono ?_
        rintro e w2 ⟨cu, rfl, _, hg2, _⟩
        have hg2' := HG1.out w2 hg2
        have HW4 := hid (HW3.out w2 hg2')
        clear HW3 HD1 HG1
        go_wp2_with fail
        refine HW4.out.mono ?_
        rintro e w' ⟨rfl, rfl⟩
        go_wp2_with fail
        refine (of_at _ G rfl HGB.out _).mono ?_
        rintro e w4 ⟨p2, c2, rfl, hr4, hg4⟩
        go_wp2_with fail
        go_ret
        exact ⟨p2, c2, rfl, hr4, grown_trans hgw (grown_trans hg2' hg4)⟩
      · have m4 : ¬ (m : Int) ≤ 4 := by omega
        have K1 := hid (pack_any p n c us wc HG.out.rx HG.out.cx.1 (by omega))
        have K2 := hid (fun w1 (hg1 : wc.grownBy w1 none) => pack_any q m d vs w1 (HG.out.ry.keep hg1) HG.out.cy.1 (by omega))
        go_wp2_with fail
        refine K1.out.mono ?_
        rintro e w1 ⟨L, zs, rfl, hr1, HZ, hg1⟩
        go_wp2_with fail
        refine (K2.out w1 hg1).mono ?_
        rintro e w2 ⟨M, ws, rfl, hr2, HWS, hg2⟩
        have hTl := hTc.lt
        have hrd2 := hr2.rd0 (by have := HWS.out.1; have := HWS.out.2.1; omega)
        rw [HWS.out.2.1] at hrd2
        have WGC := wordsGcd_any wc.heap.size L M M (some ⟨w1.heap.size, 0, none⟩) zs ws w2 ((hTc.keep hg1).keep hg2) (by omega) (hr1.kept hg2 (by simp)) HZ.out.2.1 hrd2 (by have := HZ.out.1; have := HWS.out.1; omega) (by have := HZ.out.1; omega) HZ.out.2.2.2 HWS.out.2.2.2
          (by rw [HZ.out.2.2.1, HWS.out.2.2.1]; exact HG.out.le)
        rw [HZ.out.2.2.1, HWS.out.2.2.1, HG.out.gcd] at WGC
        have HWG := hid WGC
        have hg12 := grown_trans hg1 hg2
        clear WGC hrd2 hr1 hr2 hvpos hTl K1 K2
        go_wp2_with fail
        refine HWG.out.mono ?_
        rintro e w3 ⟨p3, n3, c3, ls, rfl, hr3, hn3, HL, hg3⟩
        have hg3' : wc.grownBy w3 none := grown_new hg12 hg3 (fun g' e' => by cases e'; exact Nat.le_refl _)
        have U := unpack_any p3 n3 c3 ls w3 hr3 HL.out.1 (by omega)
        rw [HL.out.2] at U
        have HU := hid U
        clear U hr3
        go_wp2_with fail
        refine HU.out.mono ?_
        rintro e w4 ⟨p4, c4, rfl, hr4, hg4⟩
        go_wp2_with fail
        go_ret
        exact ⟨p4, c4, rfl, hr4, grown_trans hgw (grown_trans hg3' hg4)⟩

section
variable {w w' : World} {p q : Option Addr} {n c m d N M : Nat}
theorem natGcd_n (hT : Tb w) (hA : IsN w p n c N) (hB : IsN w q m d M) (hn : n ≤ 800000) (hm : m ≤ 800000) :
    Calls Tryd.prog 45 #[.slice p n c, .slice q m d] w fun e w' => ∃ p' n' c', e = .returned (.slice p' n' c') ∧ IsC w' p' n' c' (Nat.gcd N M) ∧ n' ≤ max n m ∧ w.grownBy w' none := by
  have lA := hA.lt
  have lB := hB.lt
  obtain ⟨L, h1, h2, rfl⟩ := hA
  obtain ⟨K, k1, k2, rfl⟩ := hB
  refine (natGcd_any p q n m c d L K w hT h1 k1 h2 k2 hn hm).mono fun e w' ⟨p', c', he, g1, hg⟩ => ⟨p', _, c', he, g1, ?_, hg⟩
  refine dg_length_le (by omega) ?_
  rcases Nat.eq_zero_or_pos (V 65536 L) with h0 | h0
  · rw [h0, Nat.gcd_zero_left]; exact Nat.lt_of_lt_of_le lB (Nat.pow_le_pow_right (by omega) (by omega))
  · exact Nat.lt_of_le_of_lt (Nat.gcd_le_left _ h0) (Nat.lt_of_lt_of_le lA (Nat.pow_le_pow_right (by omega) (by omega)))
end
end Go.Proofs.YthkgldpcgmnaiaaDoor

set_option linter.unusedVariables false
set_option linter.unusedSimpArgs false
namespace Go.Proofs.YthkgldpcgmnaiaaDoor
open Go.RowKit Nm

theorem IsC.zero_len {w : World} {p : Option Addr} {n c N : Nat} (h : IsC w p n c N) : (n = 0 ∧ N = 0) ∨ (0 < n ∧ 0 < N) := by
  have hl := h.len
  rcases Nat.eq_zero_or_pos N with h0 | h0
  · subst h0
    rw [dg_zero] at hl
    exact .inl ⟨by simpa using hl.symm, rfl⟩
  · refine .inr ⟨?_, h0⟩
    rcases Nat.eq_zero_or_pos n with h1 | h1
    · have e := V_dg (B := 65536) (by omega) N
      rw [List.eq_nil_of_length_eq_zero (hl.trans h1)] at e
      simp at e; omega
    · exact h1

/-- a call returns the valid Nat of G, of at most k limbs -/
def RPost (w : World) (k G : Nat) (e : Ending) (w' : World) : Prop := ∃ p n c, e = .returned (.slice p n c) ∧ IsC w' p n c G ∧ n ≤ k ∧ w.grownBy w' none

set_option maxHeartbeats 2000000 in
theorem refGcd_n {w : World} {p q : Option Addr} {n c m d N M : Nat} (hA : IsN w p n c N) (hB : IsN w q m d M) (hn : n ≤ 1100000) (hm : m ≤ 1100000) :
    Calls Tryd.prog 14 #[.slice p n c, .slice q m d] w (RPost w (max n m) (Nat.gcd N M)) := by
  obtain ⟨k, hk⟩ : ∃ k, k = max n m := ⟨_, rfl⟩
  obtain ⟨G, hG⟩ : ∃ G, G = Nat.gcd N M := ⟨_, rfl⟩
  rw [← hk, ← hG]
  have hk1 : n ≤ k := by omega
  have hk2 : m ≤ k := by omega
  have hk3 : k ≤ 1100000 := by omega
  have HG := hid hG
  clear hk hG
  go_enter Tryd.func14, Tryd.ntmps14
  go_wp2_with fail
  refine (refNorm_n hA (by omega)).mono ?_
  rintro e w1 ⟨p1, n1, c1, rfl, hA1, hn1, hg1⟩
  go_wp2_with fail
  refine (refNorm_n (hB.keep hg1) (by omega)).mono ?_
  rintro e w2 ⟨p2, n2, c2, rfl, hB2, hn2, hg2⟩
  have hA2 := hA1.keep hg2
  have hW := grown_trans hg1 hg2
  clear hA hB hA1 hg1 hg2
  go_wp2_with fail
  go_loopg [0, 1] M (fun j x y wr => ∃ (p q : Option Addr) (n c m d A : Nat), x = .slice p n c ∧ y = .slice q m d ∧ IsC wr p n c A ∧ IsC wr q m d j ∧ n ≤ k ∧ m ≤ k ∧ w.grownBy wr none ∧ Hid (Nat.gcd A j = G))
  case atStart => exact ⟨_, _, _, _, _, _, N, rfl, rfl, hA2, hB2, by omega, by omega, hW, hid HG.out.symm⟩
  case round =>
    clear hA2 hB2 hW HG
    obtain ⟨p, q, n, c, m, d, A, rfl, rfl, hA, hB, hn, hm, hW, HG⟩ := hrel
    rcases hB.zero_len with ⟨rfl, rfl⟩ | ⟨h1, h2⟩
    · have hF : IsC wr p n c G := by have := HG.out; rw [Nat.gcd_zero_right] at this; exact this ▸ hA
      go_wp2
      go_ret
      exact ⟨p, n, c, rfl, hF, hn, hW⟩
    · have hlt := Nat.mod_lt A h2
      have hi : (0 : Int) < (m : Int) := by omega
      go_wp2_with fail
      refine (refDivMod_n hA.isN hB.isN (by omega) (by omega) h2).mono ?_
      rintro e w3 ⟨p3, n3, c3, p4, n4, c4, rfl, hQ, hR, hn3, hn4, hg3⟩
      have hB3 := hB.keep hg3
      have hW3 := grown_trans hW hg3
      clear hA hB hQ hW hg3
      have HR := hid (And.intro hR hB3)
      clear hR hB3
      go_wp2_with fail
      go_roundg (A % gk)
      case measure => exact hlt
      case rel => exact ⟨_, _, _, _, _, _, gk, rfl, rfl, HR.out.2, HR.out.1, hm, by omega, hW3, hid (by rw [Nat.gcd_comm, ← Nat.gcd_rec, Nat.gcd_comm]; exact HG.out)⟩
end Go.Proofs.YthkgldpcgmnaiaaDoor
