/-
  Contracts of functions of the program, part 6: SubP, Arith, DivA.
-/
import Derived.Test.YtnfmjlomiihcnaaDoorMi5

/-
  Contracts of natural.subProduct and natural.addWords.
-/
set_option linter.unusedVariables false
set_option linter.unusedSimpArgs false
namespace Go.Proofs.YtnfmjlomiihcnaaDoor
open Go.RowKit Nm

theorem sub_step (x y lo hi p s1 c1 cy s2 c2 : Nat) (hx : x < W64) (hy : y < W64) (hp : p < W64) (hcy : cy < W64) (hs2 : s2 < W64) (h1 : x * y = lo + W64 * hi) (h2 : lo + cy + 0 = s1 + W64 * c1) (h3 : s2 + (s1 + 0) = p + W64 * c2) :
    s2 + (x * y + cy) = p + W64 * (hi + c1 + c2) ∧ hi + c1 + c2 < W64 := by
  have e : s2 + (x * y + cy) = p + W64 * (hi + c1 + c2) := by rw [Nat.mul_add, Nat.mul_add]; omega
  refine ⟨e, Nat.lt_of_not_le fun h => ?_⟩
  have k1 : W64 * W64 ≤ W64 * (hi + c1 + c2) := Nat.mul_le_mul_left _ h
  have k2 : x * y ≤ (W64 - 1) * (W64 - 1) := Nat.mul_le_mul (by omega) (by omega)
  have k3 : (W64 - 1) * (W64 - 1) + 2 * (W64 - 1) + 1 = W64 * W64 := by decide
  omega

set_option maxHeartbeats 2000000 in
theorem subProduct_any (g off pc : Nat) (cur ys : List Nat) (q : Option Addr) (m d x : Nat) (w : World) (hrow : IRow w g 59 .u64 cur) (hq : IRd w .u64 q m d ys) (hne : ∀ p, q = some p → some p.block ≠ some g)
    (hoff : off + m ≤ cur.length) (hlen : cur.length ≤ 900000) (hcur : Dg W64 cur) (hys : Dg W64 ys) (hx : x < W64) :
    Calls Tryd.prog 87 #[.slice (some ⟨g, off, none⟩) m pc, .slice q m d, .int .u64 x] w fun e w' => ∃ (cy : Nat) (cur' : List Nat), e = .returned (.int .u64 cy) ∧ cy < W64 ∧ IRow w' g 59 .u64 cur' ∧ w.grownBy w' (some g) ∧
      Hid (cur'.length = cur.length ∧ Dg W64 cur' ∧ V W64 cur' + W64 ^ off * (x * V W64 ys) = V W64 cur + W64 ^ (off + m) * cy ∧ ∀ j, j < off ∨ off + m ≤ j → cur'[j]? = cur[j]?) := by
  have HL := hid hq.len
  have hqm := hq.max
  have hqc := hq.cap
  go_enter Tryd.func87, Tryd.ntmps87
  go_wp2_with fail
  go_loopw [7, 15] (fun s7 i wr => ∃ (k cy : Nat) (cu : List Nat), k ≤ m ∧ i = .int .i64 k ∧ s7 = .int .u64 cy ∧ cy < W64 ∧ IRow wr g 59 .u64 cu ∧ w.grownBy wr (some g) ∧
      Hid (cu.length = cur.length ∧ Dg W64 cu ∧ V W64 cu + W64 ^ off * (x * V W64 (ys.take k)) = V W64 cur + W64 ^ (off + k) * cy ∧ ∀ j, j < off ∨ off + k ≤ j → cu[j]? = cur[j]?)) (fun _ i _ => m - (intOf i).toNat)
  case atStart => exact ⟨0, 0, cur, Nat.zero_le _, rfl, rfl, by decide, hrow, grown_refl _ _, hid ⟨rfl, hcur, by simp, fun _ _ => rfl⟩⟩
  case round =>
    obtain ⟨k, cy, cu, hk, rfl, rfl, hcy, hr, hgr, HC⟩ := hrel
    by_cases hlt : k < m
    · obtain ⟨b', o', rfl, hc1⟩ := hq.cel k (by rw [HL.out]; exact hlt)
      have hc2 := hgr.cell hc1 (hne ⟨b', o', none⟩ rfl)
      obtain ⟨y, hy⟩ : ∃ y, y = ys[k]'(by rw [HL.out]; exact hlt) := ⟨_, rfl⟩
      rw [← hy] at hc2
      have hyb : y < W64 := by rw [hy]; exact hys.get k _
      have hcl : off + k < cu.length := by rw [HC.out.1]; omega
      have hcc := hr.cell (off + k) hcl
      have hfr := hr.free (off + k)
      obtain ⟨p, hp⟩ : ∃ p, p = cu[off + k] := ⟨_, rfl⟩
      rw [← hp] at hcc
      have hpb : p < W64 := by rw [hp]; exact HC.out.2.1.get _ hcl
      have HP := hid hp
      have HY := hid hy
      clear hp hy hc1
      go_wp2_with (first
        | (go_at_call 70; refine (mul64_any x y hx hyb _).mono ?_; rintro e w' ⟨hi, lo, rfl, hhi, hlo, HM, rfl⟩)
        | (with_reducible refine wl_add64 _ rfl (.tmp 27) (.tmp 28) _ _ rfl _ _ 0 rfl rfl rfl hlo hcy (by omega) ?_; intro s1 c1 hs1 hc1 H1)
        | (with_reducible refine wl_sub64 _ rfl (.tmp 41) (.tmp 42) _ _ rfl _ _ 0 rfl rfl rfl hpb hs1 (by omega) ?_; intro s2 c2 hs2 hc2 H2))
      have hm := sub_step x y lo hi p s1 c1 cy s2 c2 hx hyb hpb hcy hs2 HM.out H1.out H2.out
      have hw : IntKind.u64.wrap (IntKind.u64.wrap ((hi : Int) + c1) + c2) = ((hi + c1 + c2 : Nat) : Int) := by
        have h2 : hi + c1 + c2 < 18446744073709551616 := hm.2
        rw [IntKind.wrap_u64, IntKind.wrap_u64]; omega
      have hs := step_sub (B := W64) cu (off + k) s2 (hi + c1 + c2) (x * y + cy) hcl (by rw [← HP.out]; exact hm.1)
      have hv := V_take_succ (B := W64) ys k (by rw [HL.out]; exact hlt)
      rw [← HY.out] at hv
      refine ⟨⟨k + 1, hi + c1 + c2, _, by omega, rfl, by rw [hw], hm.2, hr.setv _ _ s2 rfl, grown_trans hgr (grown_setCell _ _ _),
        hid ⟨by simpa using HC.out.1, HC.out.2.1.set _ _ hs2, ?_, fun j hj => ?_⟩⟩, by simp [intOf]; omega⟩
      · rw [hv, Nat.mul_add x, Nat.mul_add (W64 ^ off)]
        have h0 := HC.out.2.2.1
        rw [Nat.mul_add (W64 ^ (off + k)) (x * y) cy] at hs
        have e1 : W64 ^ off * (x * (W64 ^ k * y)) = W64 ^ (off + k) * (x * y) := by
          rw [Nat.pow_add, Nat.mul_assoc, Nat.mul_left_comm x]
        rw [e1]
        have e2 : off + (k + 1) = off + k + 1 := by omega
        rw [e2]
        omega
      · rw [List.getElem?_set_ne (by omega)]
        exact HC.out.2.2.2 j (by omega)
    · obtain rfl : k = m := by omega
      go_wp2
      go_ret
      refine ⟨cy, cu, rfl, hcy, hr, hgr, hid ⟨HC.out.1, HC.out.2.1, ?_, HC.out.2.2.2⟩⟩
      have := HC.out.2.2.1
      rwa [List.take_of_length_le (by rw [HL.out]; exact Nat.le_refl _)] at this

set_option maxHeartbeats 2000000 in
theorem addWords_any (g off pc : Nat) (cur ys : List Nat) (q : Option Addr) (m d : Nat) (w : World) (hrow : IRow w g 59 .u64 cur) (hq : IRd w .u64 q m d ys) (hne : ∀ p, q = some p → some p.block ≠ some g)
    (hoff : off + m ≤ cur.length) (hlen : cur.length ≤ 900000) (hcur : Dg W64 cur) (hys : Dg W64 ys) :
    Calls Tryd.prog 88 #[.slice (some ⟨g, off, none⟩) m pc, .slice q m d] w fun e w' => ∃ (cy : Nat) (cur' : List Nat), e = .returned (.int .u64 cy) ∧ IRow w' g 59 .u64 cur' ∧ w.grownBy w' (some g) ∧
      Hid (cur'.length = cur.length ∧ Dg W64 cur' ∧ V W64 cur' + W64 ^ (off + m) * cy = V W64 cur + W64 ^ off * V W64 ys ∧ ∀ j, j < off ∨ off + m ≤ j → cur'[j]? = cur[j]?) := by
  have HL := hid hq.len
  have hqm := hq.max
  have hqc := hq.cap
  go_enter Tryd.func88, Tryd.ntmps88
  go_wp2_with fail
  go_loopw [5, 10] (fun s7 i wr => ∃ (k cy : Nat) (cu : List Nat), k ≤ m ∧ i = .int .i64 k ∧ s7 = .int .u64 cy ∧ cy ≤ 1 ∧ IRow wr g 59 .u64 cu ∧ w.grownBy wr (some g) ∧
      Hid (cu.length = cur.length ∧ Dg W64 cu ∧ V W64 cu + W64 ^ (off + k) * cy = V W64 cur + W64 ^ off * V W64 (ys.take k) ∧ ∀ j, j < off ∨ off + k ≤ j → cu[j]? = cur[j]?)) (fun _ i _ => m - (intOf i).toNat)
  case atStart => exact ⟨0, 0, cur, Nat.zero_le _, rfl, rfl, by omega, hrow, grown_refl _ _, hid ⟨rfl, hcur, by simp, fun _ _ => rfl⟩⟩
  case round =>
    obtain ⟨k, cy, cu, hk, rfl, rfl, hcy, hr, hgr, HC⟩ := hrel
    by_cases hlt : k < m
    · obtain ⟨b', o', rfl, hc1⟩ := hq.cel k (by rw [HL.out]; exact hlt)
      have hc2 := hgr.cell hc1 (hne ⟨b', o', none⟩ rfl)
      obtain ⟨y, hy⟩ : ∃ y, y = ys[k]'(by rw [HL.out]; exact hlt) := ⟨_, rfl⟩
      rw [← hy] at hc2
      have hyb : y < W64 := by rw [hy]; exact hys.get k _
      have hcl : off + k < cu.length := by rw [HC.out.1]; omega
      have hcc := hr.cell (off + k) hcl
      have hfr := hr.free (off + k)
      obtain ⟨p, hp⟩ : ∃ p, p = cu[off + k] := ⟨_, rfl⟩
      rw [← hp] at hcc
      have hpb : p < W64 := by rw [hp]; exact HC.out.2.1.get _ hcl
      have HP := hid hp
      have HY := hid hy
      clear hp hy hc1
      go_wp2_with (with_reducible refine wl_add64 _ rfl (.tmp 21) (.tmp 22) (.tmp 23) _ rfl _ _ cy rfl rfl rfl hpb hyb hcy ?_; intro s1 c1 hs1 hc1 H1)
      have hs := step_add (B := W64) cu (off + k) s1 c1 (y + cy) hcl (by rw [← HP.out]; have := H1.out; omega)
      have hv := V_take_succ (B := W64) ys k (by rw [HL.out]; exact hlt)
      rw [← HY.out] at hv
      refine ⟨⟨k + 1, c1, _, by omega, rfl, rfl, hc1, hr.setv _ _ s1 rfl, grown_trans hgr (grown_setCell _ _ _),
        hid ⟨by simpa using HC.out.1, HC.out.2.1.set _ _ hs1, ?_, fun j hj => ?_⟩⟩, by simp [intOf]; omega⟩
      · rw [hv, Nat.mul_add (W64 ^ off)]
        have h0 := HC.out.2.2.1
        rw [Nat.mul_add (W64 ^ (off + k)) y cy] at hs
        have e1 : W64 ^ off * (W64 ^ k * y) = W64 ^ (off + k) * y := by rw [Nat.pow_add, Nat.mul_assoc]
        rw [e1]
        have e2 : off + (k + 1) = off + k + 1 := by omega
        rw [e2]
        omega
      · rw [List.getElem?_set_ne (by omega)]
        exact HC.out.2.2.2 j (by omega)
    · obtain rfl : k = m := by omega
      go_wp2
      go_ret
      refine ⟨cy, cu, rfl, hr, hgr, hid ⟨HC.out.1, HC.out.2.1, ?_, HC.out.2.2.2⟩⟩
      have := HC.out.2.2.1
      rwa [List.take_of_length_le (by rw [HL.out]; exact Nat.le_refl _)] at this
end Go.Proofs.YtnfmjlomiihcnaaDoor

/-
  Plain arithmetic: the estimate of a quotient digit, Newton's step for the square root, Euclid's algorithm with cofactors. No program is mentioned here.
-/
namespace Nm
/-- three words by two: the estimate of a digit is exact or one too great -/
theorem est (W first second high mid low n r v d Vlow Rlow : Nat) (hf : W ≤ 2 * first) (hd : d < W)
    (hv : v = (first * W + second) * n + Vlow) (hV : Vlow < n) (hr : r = (high * W * W + mid * W + low) * n + Rlow) (hR : Rlow < n)
    (h1 : d * (first * W + second) ≤ high * W * W + mid * W + low) (h2 : high * W * W + mid * W + low < (d + 1) * (first * W + second)) :
    r < (d + 1) * v ∧ d * v < r + v := by
  have hW : 0 < W := by omega
  have hfp : 0 < first := by omega
  generalize hN : high * W * W + mid * W + low = N at *
  generalize hD : first * W + second = D at *
  subst hv; subst hr
  constructor
  · have a : N + 1 ≤ (d + 1) * D := h2
    have b : (N + 1) * n ≤ (d + 1) * D * n := Nat.mul_le_mul_right n a
    have c : (d + 1) * (D * n + Vlow) = (d + 1) * D * n + (d + 1) * Vlow := by rw [Nat.mul_add, Nat.mul_assoc]
    rw [Nat.add_mul, Nat.one_mul] at b
    omega
  · have a : d * D * n ≤ N * n := Nat.mul_le_mul_right n h1
    have b : d * Vlow ≤ d * n := Nat.mul_le_mul_left d (by omega)
    have c : d * (D * n + Vlow) = d * D * n + d * Vlow := by rw [Nat.mul_add, Nat.mul_assoc]
    have e : W ≤ D := by
      have : 1 * W ≤ first * W := Nat.mul_le_mul_right W hfp
      omega
    have f : d * n ≤ D * n := Nat.mul_le_mul_right n (by omega)
    have g : 0 < n := by omega
    have i : (d + 1) * n ≤ D * n := Nat.mul_le_mul_right n (by omega)
    rw [Nat.add_mul, Nat.one_mul] at i
    omega

/-- the highest word is not less than the divisor's: the greatest digit will do -/
theorem est_top (W first n r v high mid Vlow Rlow : Nat) (hf : W ≤ 2 * first) (hW : 2 ≤ W)
    (hv : v = first * n + Vlow) (hV : Vlow < n) (hr : r = high * (n * W) + mid * n + Rlow) (hh : first ≤ high) (hlt : r < W * v) :
    r < (W - 1 + 1) * v ∧ (W - 1) * v < r + v := by
  constructor
  · rw [Nat.sub_add_cancel (by omega)]; exact hlt
  · have a : first * (n * W) ≤ high * (n * W) := Nat.mul_le_mul_right _ hh
    obtain ⟨k, rfl⟩ : ∃ k, W = k + 2 := ⟨W - 2, by omega⟩
    have e : (k + 2 - 1) * v = k * v + v := by rw [show k + 2 - 1 = k + 1 by omega, Nat.add_mul, Nat.one_mul]
    rw [e]
    have b : k * v < r := by
      subst hv
      have c : k * Vlow ≤ k * n := Nat.mul_le_mul_left k (by omega)
      have d : k * (first * n + Vlow) = k * first * n + k * Vlow := by rw [Nat.mul_add, Nat.mul_assoc]
      have f : first * (n * (k + 2)) = k * first * n + 2 * first * n := by
        rw [Nat.mul_add, Nat.mul_add, Nat.mul_comm n k, ← Nat.mul_assoc, Nat.mul_comm first k, Nat.mul_comm n 2, ← Nat.mul_assoc, Nat.mul_comm first 2]
      have g : (k + 2) * n ≤ 2 * first * n := Nat.mul_le_mul_right n hf
      rw [Nat.add_mul] at g
      omega
    omega
end Nm
namespace Nm
/-- one step of Newton's iteration for the square root: from the root of the highest bits to that of twice as many -/
theorem newton (a t m m1 p : Nat) (hp : p = 2 ^ t) (ht : 1 ≤ t) (h1 : (a - 1) * (a - 1) < m1) (h2 : m1 < (a + 1) * (a + 1)) (ha : 1 ≤ a) (hm : m1 = m / (p * p)) (hap : p ≤ 2 * a)
    (b : Nat) (hb : b = a * 2 ^ (t - 1) + m / (2 * p) / a) :
    (b - 1) * (b - 1) < m ∧ m < (b + 1) * (b + 1) ∧ 1 ≤ b := by
  obtain ⟨h, hh⟩ : ∃ h, h = 2 ^ (t - 1) := ⟨_, rfl⟩
  have hp2 : p = 2 * h := by rw [hp, hh, ← Nat.pow_succ']; congr 1; omega
  have hhp : 0 < h := by rw [hh]; exact Nat.pow_pos (by omega)
  have hpp : 0 < p := by omega
  rw [← hh, Nat.div_div_eq_div_mul] at hb
  -- x = p a
  obtain ⟨x, hx⟩ : ∃ x, x = p * a := ⟨_, rfl⟩
  have hxp : 0 < x := by rw [hx]; exact Nat.mul_pos hpp (by omega)
  have hx2 : x = 2 * (a * h) := by rw [hx, hp2, Nat.mul_assoc, Nat.mul_comm h a]
  have hq : 2 * p * a = 2 * x := by rw [hx, Nat.mul_assoc]
  rw [hq] at hb
  have hdm := Nat.div_add_mod m (2 * x)
  have hml := Nat.mod_lt m (show 0 < 2 * x by omega)
  generalize m / (2 * x) = q at *
  generalize m % (2 * x) = r at *
  -- 2 x b = x^2 + 2 x q
  have e1 : 2 * x * b = x * x + 2 * x * q := by
    rw [hb, Nat.mul_add]; congr 1
    have : 2 * x * (a * h) = x * (2 * (a * h)) := by rw [Nat.mul_comm 2 x, Nat.mul_assoc]
    rw [this, ← hx2]
  have lo : 2 * x * b ≤ x * x + m := by omega
  have hi : x * x + m < 2 * x * b + 2 * x := by omega
  have hbx : 1 ≤ b := by
    rw [hb]
    have : 0 < a * h := Nat.mul_pos (by omega) hhp
    omega
  -- bounds of m
  have hdm2 := Nat.div_add_mod m (p * p)
  have hml2 := Nat.mod_lt m (Nat.mul_pos hpp hpp)
  rw [← hm] at hdm2
  generalize m % (p * p) = s at *
  refine ⟨?_, ?_, hbx⟩
  · -- (b-1)^2 < m
    refine Nat.lt_of_not_le fun hge => ?_
    obtain ⟨c, rfl⟩ : ∃ c, b = c + 1 := ⟨b - 1, by omega⟩
    have hc' : m ≤ c * c := by simpa using hge
    obtain ⟨d, rfl⟩ : ∃ d, a = d + 1 := ⟨a - 1, by omega⟩
    have h1' : d * d + 1 ≤ m1 := h1
    have h2' : m1 + 1 ≤ (d + 1 + 1) * (d + 1 + 1) := h2
    have k1 : p * p * (d * d + 1) ≤ p * p * m1 := Nat.mul_le_mul_left _ h1'
    have k2 : p * p * (m1 + 1) ≤ p * p * ((d + 1 + 1) * (d + 1 + 1)) := Nat.mul_le_mul_left _ h2'
    have k3 : p * p * ((d + 1 + 1) * (d + 1 + 1)) = (x + p) * (x + p) := by
      have : x + p = p * (d + 1 + 1) := by rw [hx, Nat.mul_add p (d + 1) 1, Nat.mul_one]
      rw [this, Nat.mul_assoc, Nat.mul_assoc, ← Nat.mul_assoc p (d + 1 + 1), ← Nat.mul_assoc (d+1+1) p, Nat.mul_comm p (d + 1 + 1)]
    have hpx : p * p ≤ 2 * x := by
      rw [hx]
      have : p * p ≤ p * (2 * (d + 1)) := Nat.mul_le_mul_left p hap
      have e : p * (2 * (d + 1)) = 2 * (p * (d + 1)) := by rw [← Nat.mul_assoc, Nat.mul_comm p 2, Nat.mul_assoc]
      omega
    rw [Nat.mul_add, Nat.mul_one] at k2
    have e2 : (x + p) * (x + p) = x * x + 2 * (x * p) + p * p := by
      rw [Nat.add_mul, Nat.mul_add, Nat.mul_add, Nat.mul_comm p x]; omega
    have e3 : 2 * x * (c + 1) = 2 * (x * c) + 2 * x := by rw [Nat.mul_add, Nat.mul_one, Nat.mul_assoc]
    rcases Nat.lt_or_ge c (x + p) with hlt | hge2
    · -- x - p < c < x + p is impossible; c ≤ x - p too
      rcases Nat.lt_or_ge x (c + p) with hlt2 | hge3
      · -- |x - c| < p
        have : 2 * (x * c) + 2 * x ≤ x * x + c * c := by omega
        rcases Nat.le_total c x with hcx | hcx
        · obtain ⟨y, rfl⟩ : ∃ y, x = c + y := ⟨x - c, by omega⟩
          have hy : y * y < p * p := by
            have : y < p := by omega
            exact Nat.mul_lt_mul'' this this
          have : (c + y) * (c + y) = c * c + 2 * (c * y) + y * y := by
            rw [Nat.add_mul, Nat.mul_add, Nat.mul_add, Nat.mul_comm y c]; omega
          have : (c + y) * c = c * c + c * y := by rw [Nat.add_mul, Nat.mul_comm y c]
          omega
        · obtain ⟨y, rfl⟩ : ∃ y, c = x + y := ⟨c - x, by omega⟩
          have hy : y * y < p * p := by
            have : y < p := by omega
            exact Nat.mul_lt_mul'' this this
          have : (x + y) * (x + y) = x * x + 2 * (x * y) + y * y := by
            rw [Nat.add_mul, Nat.mul_add, Nat.mul_add, Nat.mul_comm y x]; omega
          have : x * (x + y) = x * x + x * y := by rw [Nat.mul_add]
          omega
      · -- c ≤ x - p, so m ≤ c^2 ≤ (p d)^2
        have hxd : x = p * d + p := by rw [hx, Nat.mul_add, Nat.mul_one]
        have hcd : c ≤ p * d := by omega
        have := Nat.mul_le_mul hcd hcd
        have e4 : p * d * (p * d) = p * p * (d * d) := by
          rw [Nat.mul_assoc, Nat.mul_assoc, ← Nat.mul_assoc d p, Nat.mul_comm d p, Nat.mul_assoc]
        have : 0 < p * p := Nat.mul_pos hpp hpp
        rw [Nat.mul_add, Nat.mul_one] at k1
        omega
    · -- x + p ≤ c
      have : x * (x + p) ≤ x * c := Nat.mul_le_mul_left x hge2
      rw [Nat.mul_add] at this
      omega
  · -- m < (b+1)^2
    have e3 : 2 * x * b + 2 * x = 2 * (x * (b + 1)) := by rw [Nat.mul_add, Nat.mul_one, Nat.mul_add, Nat.mul_assoc]
    rcases Nat.le_total x (b + 1) with hle | hle
    · obtain ⟨y, hy⟩ : ∃ y, b + 1 = x + y := ⟨b + 1 - x, by omega⟩
      rw [hy]
      rw [hy] at e3
      have : (x + y) * (x + y) = x * x + 2 * (x * y) + y * y := by
        rw [Nat.add_mul, Nat.mul_add, Nat.mul_add, Nat.mul_comm y x]; omega
      rw [Nat.mul_add] at e3
      omega
    · obtain ⟨y, hy⟩ : ∃ y, x = (b + 1) + y := ⟨x - (b + 1), by omega⟩
      generalize b + 1 = z at *
      subst hy
      have : (z + y) * (z + y) = z * z + 2 * (z * y) + y * y := by
        rw [Nat.add_mul, Nat.mul_add, Nat.mul_add, Nat.mul_comm y z]; omega
      have : (z + y) * z = z * z + z * y := by rw [Nat.add_mul, Nat.mul_comm y z]
      omega
end Nm
namespace Nm
/-- the relation between two numbers and the rests that some steps of Euclid's algorithm make of them -/
structure Eu (A C p r s t h o : Nat) : Prop where
  e1 : h + r * C = p * A
  e2 : o + s * A = t * C
  e3 : p * t = 1 + r * s

theorem Eu.start (A C : Nat) : Eu A C 1 0 0 1 A C := ⟨by simp, by simp, by simp⟩

theorem Eu.step {A C p r s t h o : Nat} (e : Eu A C p r s t h o) (q rest : Nat) (hq : h = q * o + rest) : Eu C A t s (r + q * t) (p + q * s) o rest := by
  obtain ⟨e1, e2, e3⟩ := e
  refine ⟨e2, ?_, ?_⟩
  · have k := congrArg (q * ·) e2
    simp only [Nat.mul_add] at k
    rw [Nat.add_mul, Nat.add_mul, Nat.mul_assoc, Nat.mul_assoc]
    omega
  · rw [Nat.mul_add, Nat.mul_add, Nat.mul_comm t p, Nat.mul_comm s r, e3, Nat.mul_left_comm t q s, Nat.mul_left_comm s q t, Nat.mul_comm t s]
    omega

/-- and back -/
theorem Eu.back {A C p r s t h o : Nat} (e : Eu A C p r s t h o) : A = t * h + r * o ∧ C = s * h + p * o := by
  obtain ⟨e1, e2, e3⟩ := e
  have a1 : t * h + t * (r * C) = t * (p * A) := by rw [← Nat.mul_add, e1]
  have a2 : r * o + r * (s * A) = r * (t * C) := by rw [← Nat.mul_add, e2]
  have a3 : s * h + s * (r * C) = s * (p * A) := by rw [← Nat.mul_add, e1]
  have a4 : p * o + p * (s * A) = p * (t * C) := by rw [← Nat.mul_add, e2]
  have b1 : t * (p * A) = A + r * (s * A) := by rw [← Nat.mul_assoc, Nat.mul_comm t p, e3, Nat.add_mul, Nat.one_mul, Nat.mul_assoc]
  have b2 : p * (t * C) = C + s * (r * C) := by rw [← Nat.mul_assoc, e3, Nat.add_mul, Nat.one_mul, Nat.mul_comm r s, Nat.mul_assoc]
  have b3 : t * (r * C) = r * (t * C) := Nat.mul_left_comm _ _ _
  have b4 : p * (s * A) = s * (p * A) := Nat.mul_left_comm _ _ _
  omega

/-- the same steps, carried out on numbers that begin with these -/
theorem Eu.lift {A C p r s t h o : Nat} (e : Eu A C p r s t h o) {K a' c' a c M0 M1 : Nat} (ha : a' < K) (hc : c' < K) (ea : a = A * K + a') (ec : c = C * K + c')
    (hr : r ≤ M0) (hs : s ≤ M1) (ht : t ≤ M1) (hM : 1 ≤ M1) (h1 : M1 ≤ o) (h2 : o + M0 + M1 ≤ h) :
    r * c ≤ p * a ∧ s * a ≤ t * c ∧ t * c - s * a < p * a - r * c ∧ Eu a c p r s t (p * a - r * c) (t * c - s * a) := by
  obtain ⟨e1, e2, e3⟩ := e
  have f1 : h * K + r * (C * K) = p * (A * K) := by rw [← Nat.mul_assoc, ← Nat.mul_assoc, ← Nat.add_mul, e1]
  have f2 : o * K + s * (A * K) = t * (C * K) := by rw [← Nat.mul_assoc, ← Nat.mul_assoc, ← Nat.add_mul, e2]
  have g1 : p * a = p * (A * K) + p * a' := by rw [ea, Nat.mul_add]
  have g2 : r * c = r * (C * K) + r * c' := by rw [ec, Nat.mul_add]
  have g3 : s * a = s * (A * K) + s * a' := by rw [ea, Nat.mul_add]
  have g4 : t * c = t * (C * K) + t * c' := by rw [ec, Nat.mul_add]
  have k1 : r * c' ≤ M0 * c' := Nat.mul_le_mul_right _ hr
  have k2 : s * a' ≤ M1 * a' := Nat.mul_le_mul_right _ hs
  have k3 : t * c' ≤ M1 * c' := Nat.mul_le_mul_right _ ht
  have k4 : M1 * a' ≤ M1 * K := Nat.mul_le_mul_left _ (by omega)
  have k5 : M1 * K ≤ o * K := Nat.mul_le_mul_right _ h1
  have k6 : (o + M0 + M1) * K ≤ h * K := Nat.mul_le_mul_right _ h2
  rw [Nat.add_mul, Nat.add_mul] at k6
  have k7 : M0 * c' ≤ M0 * K := Nat.mul_le_mul_left _ (by omega)
  have k8 : M1 * (c' + 1) ≤ M1 * K := Nat.mul_le_mul_left _ (by omega)
  rw [Nat.mul_add, Nat.mul_one] at k8
  have c1 : r * c ≤ p * a := by omega
  have c2 : s * a ≤ t * c := by omega
  exact ⟨c1, c2, by omega, ⟨by omega, by omega, e3⟩⟩

theorem Eu.gcd {A C p r s t h o : Nat} (e : Eu A C p r s t h o) : Nat.gcd h o = Nat.gcd A C := by
  obtain ⟨b1, b2⟩ := e.back
  obtain ⟨e1, e2, e3⟩ := e
  apply Nat.dvd_antisymm
  · apply Nat.dvd_gcd
    · rw [b1]; exact Nat.dvd_add (Nat.dvd_mul_left_of_dvd (Nat.gcd_dvd_left h o) _) (Nat.dvd_mul_left_of_dvd (Nat.gcd_dvd_right h o) _)
    · rw [b2]; exact Nat.dvd_add (Nat.dvd_mul_left_of_dvd (Nat.gcd_dvd_left h o) _) (Nat.dvd_mul_left_of_dvd (Nat.gcd_dvd_right h o) _)
  · apply Nat.dvd_gcd
    · have : Nat.gcd A C ∣ h + r * C := by rw [e1]; exact Nat.dvd_mul_left_of_dvd (Nat.gcd_dvd_left A C) _
      exact (Nat.dvd_add_left (Nat.dvd_mul_left_of_dvd (Nat.gcd_dvd_right A C) _)).1 this
    · have : Nat.gcd A C ∣ o + s * A := by rw [e2]; exact Nat.dvd_mul_left_of_dvd (Nat.gcd_dvd_right A C) _
      exact (Nat.dvd_add_left (Nat.dvd_mul_left_of_dvd (Nat.gcd_dvd_left A C) _)).1 this
end Nm

/-
  Plain arithmetic of the division of two words by one, and of the division by hand. No program is mentioned here.
-/
set_option linter.unusedVariables false
namespace Nm
/-- the estimate q of the quotient of n B + u by y1 B + y0, with the rest r of n by y1 -/
structure Dq (B y1 y0 n u q r : Nat) : Prop where
  e : q * y1 + r = n
  hi : n * B + u < (q + 1) * (y1 * B + y0)

theorem Dq.start {B y1 y0 n u : Nat} (hy : 0 < y1) (hu : u < B) : Dq B y1 y0 n u (n / y1) (n % y1) := by
  refine ⟨by rw [Nat.mul_comm]; exact Nat.div_add_mod n y1, ?_⟩
  have h := Nat.div_add_mod n y1
  have hl := Nat.mod_lt n hy
  have h1 : n + 1 ≤ (n / y1 + 1) * y1 := by rw [Nat.add_mul, Nat.one_mul, Nat.mul_comm]; omega
  have h2 := Nat.mul_le_mul_right B h1
  rw [Nat.add_mul, Nat.one_mul] at h2
  rw [Nat.mul_add, ← Nat.mul_assoc]
  omega

theorem Dq.step {B y1 y0 n u q r : Nat} (h : Dq B y1 y0 n u q r) (hn : n < y1 * B + y0) (hu : u < B) (hc : B ≤ q ∨ B * r + u < q * y0) :
    1 ≤ q ∧ Dq B y1 y0 n u (q - 1) (r + y1) := by
  have hq : 1 ≤ q := by
    rcases Nat.eq_zero_or_pos q with h0 | h0
    · subst h0; rcases hc with hc | hc
      · omega
      · simp at hc
    · exact h0
  obtain ⟨p, rfl⟩ : ∃ p, q = p + 1 := ⟨q - 1, by omega⟩
  refine ⟨hq, ⟨by have := h.e; rw [Nat.add_mul, Nat.one_mul] at this; simp only [Nat.add_sub_cancel]; omega, ?_⟩⟩
  simp only [Nat.add_sub_cancel]
  rcases hc with hc | hc
  · have h1 : (n + 1) * B ≤ (y1 * B + y0) * B := Nat.mul_le_mul_right B hn
    have h2 : (y1 * B + y0) * B ≤ (y1 * B + y0) * (p + 1) := Nat.mul_le_mul_left _ hc
    rw [Nat.add_mul, Nat.one_mul] at h1
    rw [Nat.mul_comm (p + 1)]
    omega
  · have := h.e
    have e2 : n * B = (p + 1) * y1 * B + r * B := by rw [← this, Nat.add_mul]
    rw [Nat.mul_add, ← Nat.mul_assoc, Nat.mul_comm r B] at *
    omega

theorem Dq.done {B y1 y0 n u q r : Nat} (h : Dq B y1 y0 n u q r) (hc : q * y0 ≤ B * r + u) : q = (n * B + u) / (y1 * B + y0) := by
  have e2 : n * B = q * y1 * B + r * B := by rw [← h.e, Nat.add_mul]
  have hi := h.hi
  have lo : q * (y1 * B + y0) ≤ n * B + u := by
    rw [Nat.mul_add, ← Nat.mul_assoc]; rw [Nat.mul_comm r B] at e2; omega
  symm
  rw [Nat.div_eq_iff (by
    rcases Nat.eq_zero_or_pos (y1 * B + y0) with h0 | h0
    · rw [h0] at hi; omega
    · exact h0)]
  refine ⟨lo, ?_⟩
  rw [Nat.add_mul, Nat.one_mul] at hi; omega

theorem Dq.done2 {B y1 y0 n u q r : Nat} (h : Dq B y1 y0 n u q r) (hn : n < y1 * B + y0) (hy0 : y0 < B) (hr : B ≤ r) : q < B ∧ q = (n * B + u) / (y1 * B + y0) := by
  have he := h.e
  have hq : q < B := by
    refine Nat.lt_of_not_le fun hge => ?_
    have := Nat.mul_le_mul_right y1 hge
    rw [Nat.mul_comm B y1] at this
    omega
  refine ⟨hq, h.done ?_⟩
  have h1 : q * y0 ≤ B * B := Nat.mul_le_mul (by omega) (by omega)
  have h2 : B * B ≤ B * r := Nat.mul_le_mul_left _ hr
  omega

/-- two digits of a quotient, one after the other -/
theorem div_two {B n u1 u0 y : Nat} (hy : 0 < y) :
    ((n * B + u1) / y * B + ((n * B + u1) % y * B + u0) / y = (n * B * B + u1 * B + u0) / y) ∧ ((n * B + u1) % y * B + u0) % y = (n * B * B + u1 * B + u0) % y := by
  have h1 := Nat.div_add_mod (n * B + u1) y
  generalize (n * B + u1) / y = q1 at *
  generalize (n * B + u1) % y = r1 at *
  have h2 := Nat.div_add_mod (r1 * B + u0) y
  have hl := Nat.mod_lt (r1 * B + u0) hy
  generalize (r1 * B + u0) / y = q0 at *
  generalize (r1 * B + u0) % y = r0 at *
  have e : n * B * B + u1 * B + u0 = y * (q1 * B + q0) + r0 := by
    rw [← Nat.add_mul, ← h1, Nat.add_mul, Nat.mul_add, Nat.mul_assoc]; omega
  rw [e]
  constructor
  · rw [Nat.mul_add_div hy, Nat.div_eq_of_lt hl]; rfl
  · rw [Nat.mul_add_mod, Nat.mod_eq_of_lt hl]

/-- quotients of shifted numbers -/
theorem div_shift (N y s : Nat) (hs : 0 < s) : N * s / (y * s) = N / y ∧ N * s % (y * s) / s = N % y := by
  refine ⟨Nat.mul_div_mul_right _ _ hs, ?_⟩
  rw [Nat.mul_mod_mul_right, Nat.mul_div_cancel _ hs]
end Nm
namespace Nm
theorem shift_two {W S T hi lo : Nat} (hST : S * T = W) (hS : 0 < S) : (hi * S + lo / T) * W + lo * S % W = (hi * W + lo) * S := by
  have e1 : lo / T = lo * S / W := by
    rw [← hST, Nat.mul_comm S T]
    exact (Nat.mul_div_mul_right lo T hS).symm
  rw [e1]
  have := Nat.div_add_mod (lo * S) W
  rw [Nat.add_mul, Nat.add_mul, Nat.mul_right_comm hi S W, Nat.mul_comm (lo * S / W) W]
  omega
theorem shift_lt {S T hi lo y W : Nat} (hST : S * T = W) (hT : 0 < T) (hlo : lo < W) (hy : hi < y) : hi * S + lo / T < y * S := by
  have h1 : lo / T < S := Nat.div_lt_of_lt_mul (by rw [Nat.mul_comm, hST]; exact hlo)
  have h2 : (hi + 1) * S ≤ y * S := Nat.mul_le_mul_right _ hy
  rw [Nat.add_mul, Nat.one_mul] at h2
  omega
/-- the steps of the division of two words by one word: all of them together -/
theorem div_words {B W S T hi lo y un1 un0 q1 q0 : Nat} (hW : W = B * B) (hST : S * T = W) (hS : 0 < S) (hT : 0 < T) (hlo : lo < W) (hy : hi < y)
    (h1 : lo * S % W = un1 * B + un0)
    (e1 : q1 = ((hi * S + lo / T) * B + un1) / (y * S)) (e0 : q0 = (((hi * S + lo / T) * B + un1) % (y * S) * B + un0) / (y * S)) :
    q1 * B + q0 = (hi * W + lo) / y ∧ (((hi * S + lo / T) * B + un1) % (y * S) * B + un0) % (y * S) / S = (hi * W + lo) % y := by
  have hyS : 0 < y * S := Nat.mul_pos (by omega) hS
  have hd := div_two (B := B) (n := hi * S + lo / T) (u1 := un1) (u0 := un0) hyS
  have hs := shift_two (hi := hi) (lo := lo) hST hS
  have e : (hi * S + lo / T) * B * B + un1 * B + un0 = (hi * W + lo) * S := by
    rw [← hs, h1, hW, Nat.mul_assoc]; omega
  rw [e] at hd
  have hz := div_shift (hi * W + lo) y S hS
  rw [hz.1] at hd
  rw [e1, e0, hd.2]
  exact ⟨hd.1, hz.2⟩
end Nm
namespace Nm
/-- the digit was right: nothing is left to subtract -/
theorem digit_right {N v r d top bor p : Nat} (e : p + d * v + N * top = r + N * bor) (hle : bor ≤ top) (hlt : r < (d + 1) * v) (hv : v ≤ N) : p + d * v = r ∧ p < v := by
  obtain ⟨t, rfl⟩ : ∃ t, top = bor + t := ⟨top - bor, by omega⟩
  rw [Nat.add_mul, Nat.one_mul] at hlt
  rw [Nat.mul_add] at e
  rcases Nat.eq_zero_or_pos t with h0 | h0
  · subst h0; simp at e; omega
  · have : N * 1 ≤ N * t := Nat.mul_le_mul_left _ h0
    omega
/-- the digit was one too great: the divisor is added again -/
theorem digit_less {N v r d top bor p p2 c : Nat} (e : p + d * v + N * top = r + N * bor) (hlt : top < bor) (hp : p < N) (hd : d * v < r + v) (e2 : p2 + N * c = p + v) (hp2 : p2 < N) (hv : v ≤ N) :
    1 ≤ d ∧ p2 + (d - 1) * v = r ∧ p2 < v := by
  obtain ⟨t, rfl⟩ : ∃ t, bor = top + 1 + t := ⟨bor - top - 1, by omega⟩
  rw [Nat.mul_add, Nat.mul_add, Nat.mul_one] at e
  have hN : N * t = 0 ∨ N ≤ N * t := by
    rcases Nat.eq_zero_or_pos t with h0 | h0
    · left; rw [h0, Nat.mul_zero]
    · right; have := Nat.mul_le_mul_left N h0; omega
  have hd1 : 1 ≤ d := by
    rcases Nat.eq_zero_or_pos d with h0 | h0
    · subst h0; simp at e; omega
    · exact h0
  obtain ⟨f, rfl⟩ : ∃ f, d = f + 1 := ⟨d - 1, by omega⟩
  rw [Nat.add_mul, Nat.one_mul] at e hd
  simp only [Nat.add_sub_cancel]
  have hc : c = 0 ∨ c = 1 ∨ 2 ≤ c := by omega
  refine ⟨hd1, ?_⟩
  rcases hc with rfl | rfl | hc
  · simp at e2; omega
  · simp at e2; omega
  · have := Nat.mul_le_mul_left N hc; omega
end Nm
namespace Nm
theorem digit_est {W first second N2 v Vlow r Rlow high mid low d : Nat} (hf : W ≤ 2 * first) (hW : 2 ≤ W) (hv : v = (first * W + second) * N2 + Vlow) (hV : Vlow < N2)
    (hr : r = (high * W * W + mid * W + low) * N2 + Rlow) (hR : Rlow < N2) (hs : second < W) (hmid : mid < W) (hlow : low < W) (hlt : r < W * v)
    (hd : d = if first ≤ high then W - 1 else (high * W * W + mid * W + low) / (first * W + second)) : d < W ∧ r < (d + 1) * v ∧ d * v < r + v := by
  have hfW : 0 < first * W := Nat.mul_pos (by omega) (by omega)
  by_cases h : first ≤ high
  · rw [if_pos h] at hd
    subst hd
    refine ⟨by omega, ?_⟩
    have sN : second * N2 + N2 ≤ W * N2 := by
      have := Nat.mul_le_mul_right N2 (show second + 1 ≤ W from hs)
      rwa [Nat.add_mul, Nat.one_mul] at this
    have lN : low * N2 + N2 ≤ W * N2 := by
      have := Nat.mul_le_mul_right N2 (show low + 1 ≤ W from hlow)
      rwa [Nat.add_mul, Nat.one_mul] at this
    refine est_top W first (W * N2) r v high mid (second * N2 + Vlow) (low * N2 + Rlow) hf hW ?_ (by omega) ?_ h hlt
    · rw [hv, Nat.add_mul, Nat.mul_assoc]; omega
    · rw [hr, Nat.add_mul, Nat.add_mul]
      have e1 : high * W * W * N2 = high * (W * N2 * W) := by rw [Nat.mul_assoc, Nat.mul_assoc, Nat.mul_right_comm W N2 W, ← Nat.mul_assoc W W N2]
      have e2 : mid * W * N2 = mid * (W * N2) := Nat.mul_assoc _ _ _
      rw [e1, e2]; omega
  · rw [if_neg h] at hd
    have hD : 0 < first * W + second := by omega
    have a1 := Nat.div_add_mod (high * W * W + mid * W + low) (first * W + second)
    have a2 := Nat.mod_lt (high * W * W + mid * W + low) hD
    rw [← hd] at a1
    generalize (high * W * W + mid * W + low) % (first * W + second) = z at *
    rw [Nat.mul_comm] at a1
    have h1 : d * (first * W + second) ≤ high * W * W + mid * W + low := by omega
    have h2 : high * W * W + mid * W + low < (d + 1) * (first * W + second) := by rw [Nat.add_mul, Nat.one_mul]; omega
    have hdW : d < W := by
      refine Nat.lt_of_not_le fun hge => ?_
      have b1 : W * (first * W + second) ≤ d * (first * W + second) := Nat.mul_le_mul_right _ hge
      have b2 : (high + 1) * W * W ≤ first * W * W := Nat.mul_le_mul_right _ (Nat.mul_le_mul_right _ (by omega))
      have b3 : (mid + 1) * W ≤ W * W := Nat.mul_le_mul_right _ hmid
      rw [Nat.add_mul, Nat.add_mul, Nat.one_mul] at b2
      rw [Nat.add_mul, Nat.one_mul] at b3
      rw [Nat.mul_add, Nat.mul_comm W (first * W)] at b1
      omega
    exact ⟨hdW, est W first second high mid low N2 r v d Vlow Rlow hf hdW hv hV hr hR h1 h2⟩

/-- the highest three words of what is left -/
theorem three_words {W : Nat} (hW : 1 < W) (cur : List Nat) (hc : Dg W cur) (i m : Nat) (hi : i + m + 2 < cur.length) (v : Nat) (hv : v ≤ W ^ (m + 2)) (hlt : V W (cur.drop (i + 1)) < v)
    (hi0 : i + m + 2 < cur.length) :
    ∃ Rlow, Rlow < W ^ m ∧ V W (cur.drop i) = (cur[i + m + 2] * W * W + cur[i + m + 1] * W + cur[i + m]) * W ^ m + Rlow ∧ V W (cur.drop i) < W * v := by
  have hd := hc.drop i
  have e0 := V_drop_succ (B := W) cur i (by omega)
  have hx := hc.get i (by omega)
  have hr : V W (cur.drop i) < W * v := by
    rw [e0]
    have := Nat.mul_le_mul_left W (show V W (cur.drop (i + 1)) + 1 ≤ v from hlt)
    rw [Nat.mul_add, Nat.mul_one] at this
    omega
  have g0 : cur[i + m] = V W (cur.drop i) / W ^ m % W := by
    rw [← dig_get (cur.drop i) hd m (by simp; omega)]; simp
  have g1 : cur[i + m + 1] = V W (cur.drop i) / W ^ (m + 1) % W := by
    rw [← dig_get (cur.drop i) hd (m + 1) (by simp; omega)]; simp [Nat.add_assoc]
  have g2 : cur[i + m + 2] = V W (cur.drop i) / W ^ (m + 2) % W := by
    rw [← dig_get (cur.drop i) hd (m + 2) (by simp; omega)]; simp [Nat.add_assoc]
  generalize V W (cur.drop i) = r at *
  refine ⟨r % W ^ m, Nat.mod_lt _ (Nat.pow_pos (by omega)), ?_, hr⟩
  have p1 : W ^ (m + 1) = W ^ m * W := Nat.pow_succ ..
  have p2 : W ^ (m + 2) = W ^ m * (W * W) := by rw [Nat.pow_succ, Nat.pow_succ, Nat.mul_assoc]
  have hb : r / W ^ m < W * (W * W) := by
    refine Nat.div_lt_of_lt_mul (Nat.lt_of_lt_of_le hr ?_)
    rw [Nat.mul_left_comm]; exact Nat.mul_le_mul_left W (p2 ▸ hv)
  rw [p1, ← Nat.div_div_eq_div_mul] at g1
  rw [p2, ← Nat.div_div_eq_div_mul] at g2
  have hq := Nat.div_add_mod r (W ^ m)
  rw [g0, g1, g2]
  generalize r / W ^ m = q at *
  have c1 : q / (W * W) % W = q / (W * W) := Nat.mod_eq_of_lt (Nat.div_lt_of_lt_mul (by rw [Nat.mul_comm]; exact hb))
  have c2 := Nat.div_add_mod q W
  have c3 := Nat.div_add_mod (q / W) W
  rw [Nat.div_div_eq_div_mul] at c3
  have e : q / (W * W) % W * W * W + q / W % W * W + q % W = q := by
    rw [c1, ← Nat.add_mul, Nat.mul_comm (q / (W * W)) W, c3, Nat.mul_comm (q / W) W, c2]
  rw [e, Nat.mul_comm q]; omega
end Nm
namespace Nm
/-- the parts of a word that is shifted up by s -/
theorem shl_parts {W S T x : Nat} (hST : S * T = W) (hS : 0 < S) : x * S % W + W * (x / T) = x * S := by
  have e1 : x / T = x * S / W := by
    rw [← hST, Nat.mul_comm S T]; exact (Nat.mul_div_mul_right x T hS).symm
  rw [e1]; exact Nat.mod_add_div _ _

theorem shl_low {W S T x : Nat} (hST : S * T = W) : x * S % W = x % T * S := by
  rw [← hST, Nat.mul_comm S T, Nat.mul_mod_mul_right]

/-- one step of a shift up -/
theorem up_step {W S T : Nat} (hW : 1 < W) (hST : S * T = W) (hS : 0 < S) (hT : 0 < T) (cu : List Nat) (k x v : Nat) (hk : k + 1 < cu.length) (hx : x < W) (h0 : cu[k + 1] = 0) (hv : V W cu = v * S) :
    V W ((cu.set k (cu[k] + x * S % W)).set (k + 1) (x / T)) = (v + W ^ k * x) * S ∧ x / T < S := by
  refine ⟨?_, Nat.div_lt_of_lt_mul (by rw [Nat.mul_comm, hST]; exact hx)⟩
  have h1 := V_set (B := W) cu k (cu[k] + x * S % W) (by omega)
  have hl : (k + 1) < (cu.set k (cu[k] + x * S % W)).length := by simpa using hk
  have h2 := V_set (B := W) (cu.set k (cu[k] + x * S % W)) (k + 1) (x / T) hl
  have e0 : (cu.set k (cu[k] + x * S % W))[k + 1] = 0 := by
    rw [List.getElem_set_ne (by omega)]; exact h0
  rw [e0, Nat.mul_zero, Nat.add_zero] at h2
  have h3 := shl_parts (x := x) hST hS
  have h4 := congrArg (W ^ k * ·) h3
  simp only [Nat.mul_add] at h4
  rw [Nat.mul_add] at h1
  rw [h2, Nat.add_mul, Nat.pow_succ]
  rw [← Nat.mul_assoc] at h4
  rw [hv] at h1
  rw [Nat.mul_assoc (W ^ k) x S]
  omega
end Nm
namespace Nm
/-- one step of a shift down -/
theorem down_step {W S T : Nat} (hW : 1 < W) (hST : S * T = W) (hS : 0 < S) (hT : 0 < T) (cu : List Nat) (k x v : Nat) (hk : k + 1 < cu.length) (hx : x < W) (h0 : cu[k + 1] = 0) (hv : V W cu = v / S) :
    V W ((cu.set (k + 1) (x / S)).set k (cu[k] + x * T % W)) = (v + W ^ (k + 1) * x) / S ∧ x / S < T := by
  refine ⟨?_, Nat.div_lt_of_lt_mul (by rw [hST]; exact hx)⟩
  have h1 := V_set (B := W) cu (k + 1) (x / S) hk
  have hl : k < (cu.set (k + 1) (x / S)).length := by simp; omega
  have h2 := V_set (B := W) (cu.set (k + 1) (x / S)) k (cu[k] + x * T % W) hl
  have e0 : (cu.set (k + 1) (x / S))[k] = cu[k] := by
    rw [List.getElem_set_ne (by omega)]
  rw [e0, Nat.mul_add] at h2
  rw [h0, Nat.mul_zero, Nat.add_zero] at h1
  have h3 := shl_parts (x := x) (S := T) (T := S) (W := W) (by rw [Nat.mul_comm]; exact hST) hT
  have h4 := congrArg (W ^ k * ·) h3
  simp only [Nat.mul_add] at h4
  have e5 : (v + W ^ (k + 1) * x) / S = v / S + W ^ k * (x * T) := by
    have : W ^ (k + 1) * x = S * (W ^ k * (x * T)) := by
      have e6 : W * x = S * (x * T) := by rw [← hST, Nat.mul_assoc, Nat.mul_comm T x]
      rw [Nat.pow_succ, Nat.mul_assoc, e6, Nat.mul_left_comm]
    rw [this, Nat.add_mul_div_left _ _ hS]
  rw [e5, ← hv]
  rw [Nat.pow_succ, Nat.mul_assoc] at h1
  omega
theorem down_first {W S : Nat} (cu : List Nat) (x : Nat) (hk : 0 < cu.length) (h0 : cu[0] = 0) (hv : V W cu = 0) : V W (cu.set 0 (x / S)) = x / S := by
  have h1 := V_set (B := W) cu 0 (x / S) hk
  rw [h0, hv] at h1; simpa using h1
end Nm
namespace Nm
/-- the state of the division by hand, when k digits are still to come -/
structure KInv (W n Lq v U k : Nat) (cu cq : List Nat) : Prop where
  lu : cu.length = n + 1
  du : Dg W cu
  lq : cq.length = Lq
  dq : Dg W cq
  zq : ∀ j, j < k → cq[j]? = some 0
  eq : V W cu + v * V W cq = U
  lt : V W (cu.drop k) < v

theorem same_parts {cu cu1 : List Nat} {i m : Nat} (h : ∀ j, j < i ∨ i + m ≤ j → cu1[j]? = cu[j]?) : cu1.take i = cu.take i ∧ cu1.drop (i + m) = cu.drop (i + m) := by
  constructor
  · apply List.ext_getElem?
    intro j
    rw [List.getElem?_take, List.getElem?_take]
    by_cases hj : j < i
    · rw [if_pos hj, if_pos hj]; exact h j (.inl hj)
    · rw [if_neg hj, if_neg hj]
  · apply List.ext_getElem?
    intro j
    rw [List.getElem?_drop, List.getElem?_drop]
    exact h _ (.inr (by omega))

theorem drop_level {W : Nat} (hW : 0 < W) {cu cu1 : List Nat} {i m A b : Nat} (hi : i ≤ cu.length) (hl : cu1.length = cu.length) (ht : cu1.take i = cu.take i) (e : V W cu1 + W ^ i * A = V W cu + W ^ (i + m) * b) :
    V W (cu1.drop i) + A = V W (cu.drop i) + W ^ m * b := by
  have h1 := V_take_drop (B := W) cu i hi
  have h2 := V_take_drop (B := W) cu1 i (by omega)
  rw [ht] at h2
  have hp : 0 < W ^ i := Nat.pow_pos hW
  apply Nat.eq_of_mul_eq_mul_left hp
  rw [Nat.mul_add, Nat.mul_add, ← Nat.mul_assoc, ← Nat.pow_add]
  omega

theorem V_zero_of {W : Nat} {xs : List Nat} {i m v : Nat} (hW : 0 < W) (hi : i + m ≤ xs.length) (hlt : V W (xs.drop i) < v) (hv : v ≤ W ^ m) : V W (xs.drop (i + m)) = 0 := by
  have h := V_take_drop (B := W) (xs.drop i) m (by simp; omega)
  rw [List.drop_drop] at h
  rcases Nat.eq_zero_or_pos (V W (xs.drop (i + m))) with h0 | h0
  · exact h0
  · have := Nat.mul_le_mul_left (W ^ m) h0
    omega

/-- what is left behind the subtraction, on the level of place i -/
theorem knuth_sub {W n Lq v U i m A bor : Nat} {cu cq cu1 : List Nat} (hW : 1 < W) (h : KInv W n Lq v U (i + 1) cu cq) (hv : v ≤ W ^ m) (him : i + m ≤ n) (hl : cu1.length = cu.length) (hd : Dg W cu1)
    (e : V W cu1 + W ^ i * A = V W cu + W ^ (i + m) * bor) (hs : ∀ j, j < i ∨ i + m ≤ j → cu1[j]? = cu[j]?) (him2 : i + m < cu.length) :
    V W ((cu1.drop i).take m) + A + W ^ m * cu[i + m] = V W (cu.drop i) + W ^ m * bor ∧ V W ((cu1.drop i).take m) < W ^ m := by
  have hlu := h.lu
  obtain ⟨h1, h2⟩ := same_parts hs
  have h3 := drop_level (by omega) (by omega) hl h1 e
  have h4 := V_take_drop (B := W) (cu1.drop i) m (by simp; omega)
  rw [List.drop_drop, h2] at h4
  have h5 := V_drop_succ (B := W) cu (i + m) him2
  have h6 := V_zero_of (xs := cu) (i := i + 1) (m := m) (by omega) (by omega) h.lt hv
  rw [show i + 1 + m = i + m + 1 by omega] at h6
  rw [h6, Nat.mul_zero, Nat.add_zero] at h5
  rw [h5] at h4
  have h7 := ((hd.drop i).take m).lt
  have h8 : W ^ ((cu1.drop i).take m).length ≤ W ^ m := Nat.pow_le_pow_right (by omega) (List.length_take_le _ _)
  exact ⟨by omega, by omega⟩

/-- the highest word is set to 0 -/
theorem clear_top {W n Lq v U i m : Nat} {cu cq cu1 : List Nat} (hW : 1 < W) (h : KInv W n Lq v U (i + 1) cu cq) (hv : v ≤ W ^ m) (him : i + m ≤ n) (hl : cu1.length = cu.length)
    (hs : ∀ j, j < i ∨ i + m ≤ j → cu1[j]? = cu[j]?) :
    V W ((cu1.set (i + m) 0).drop i) = V W ((cu1.drop i).take m) ∧ (cu1.set (i + m) 0).take i = cu.take i := by
  have hlu := h.lu
  obtain ⟨h1, h2⟩ := same_parts hs
  have him1 : i + m < cu1.length := by omega
  have h4 := V_take_drop (B := W) ((cu1.set (i + m) 0).drop i) m (by simp; omega)
  rw [List.drop_drop] at h4
  have e1 : ((cu1.set (i + m) 0).drop i).take m = (cu1.drop i).take m := by
    apply List.ext_getElem?
    intro j
    rw [List.getElem?_take, List.getElem?_take]
    by_cases hj : j < m
    · rw [if_pos hj, if_pos hj, List.getElem?_drop, List.getElem?_drop, List.getElem?_set_ne (by omega)]
    · rw [if_neg hj, if_neg hj]
  have e2 : V W ((cu1.set (i + m) 0).drop (i + m)) = 0 := by
    have h5 := V_drop_succ (B := W) (cu1.set (i + m) 0) (i + m) (by simpa using him1)
    have h6 : (cu1.set (i + m) 0).drop (i + m + 1) = cu.drop (i + m + 1) := by
      apply List.ext_getElem?
      intro j
      rw [List.getElem?_drop, List.getElem?_drop, List.getElem?_set_ne (by omega)]
      exact hs _ (.inr (by omega))
    have h7 := V_zero_of (xs := cu) (i := i + 1) (m := m) (by omega) (by omega) h.lt hv
    rw [show i + 1 + m = i + m + 1 by omega] at h7
    rw [h6, h7] at h5
    rw [h5]; simp
  rw [e1, e2, Nat.mul_zero, Nat.add_zero] at h4
  refine ⟨h4, ?_⟩
  apply List.ext_getElem?
  intro j
  rw [List.getElem?_take, List.getElem?_take]
  by_cases hj : j < i
  · rw [if_pos hj, if_pos hj, List.getElem?_set_ne (by omega)]; exact hs j (.inl hj)
  · rw [if_neg hj, if_neg hj]

/-- a digit more -/
theorem KInv.next {W n Lq v U i d : Nat} {cu cq cu2 : List Nat} (hW : 0 < W) (h : KInv W n Lq v U (i + 1) cu cq) (hi : i < n) (hiq : i < Lq) (hl : cu2.length = cu.length) (hd2 : Dg W cu2) (ht : cu2.take i = cu.take i)
    (hd : d < W) (e : V W (cu2.drop i) + d * v = V W (cu.drop i)) (hlt : V W (cu2.drop i) < v) : KInv W n Lq v U i cu2 (cq.set i d) := by
  have hlu := h.lu
  have hlq := h.lq
  refine ⟨by omega, hd2, by simpa using hlq, h.dq.set _ _ hd, fun j hj => ?_, ?_, hlt⟩
  · rw [List.getElem?_set_ne (by omega)]; exact h.zq j (by omega)
  · have h1 := V_take_drop (B := W) cu i (by omega)
    have h2 := V_take_drop (B := W) cu2 i (by omega)
    rw [ht] at h2
    have h3 := V_set (B := W) cq i d (by omega)
    have h0 : cq[i]'(by omega) = 0 := by
      have := h.zq i (by omega)
      rw [List.getElem?_eq_getElem (by omega)] at this
      simpa using this
    rw [h0, Nat.mul_zero, Nat.add_zero] at h3
    rw [← h.eq, h3, h1, h2, ← e, Nat.mul_add, Nat.mul_add]
    have : v * (W ^ i * d) = W ^ i * (d * v) := by rw [Nat.mul_left_comm, Nat.mul_comm v d]
    omega

/-- the end: the quotient and the rest -/
theorem KInv.done {W n Lq v U : Nat} {cu cq : List Nat} (h : KInv W n Lq v U 0 cu cq) : V W cq = U / v ∧ V W cu = U % v := by
  have h1 := h.lt
  rw [List.drop_zero] at h1
  have h2 := h.eq
  rw [Nat.add_comm] at h2
  constructor
  · rw [← h2, Nat.mul_add_div (by omega), Nat.div_eq_of_lt h1, Nat.add_zero]
  · rw [← h2, Nat.mul_add_mod, Nat.mod_eq_of_lt h1]

/-- the beginning -/
theorem KInv.start {W n m v U S : Nat} {cu : List Nat} (hW : 1 < W) (hm : 1 ≤ m) (hmn : m ≤ n) (lu : cu.length = n + 1) (du : Dg W cu) (eu : V W cu = U * S) (hU : U < W ^ n) (hv : W ^ (m - 1) * S ≤ v) (hS : 0 < S) :
    KInv W n (n + 1 - m) v (U * S) (n + 1 - m) cu (List.replicate (n + 1 - m) 0) := by
  refine ⟨lu, du, by simp, Dg.zeros (by omega) _, fun j hj => by simp [hj], by rw [V_zeros, eu]; simp, ?_⟩
  rw [V_drop_eq cu du _ (by omega), eu]
  refine Nat.div_lt_of_lt_mul ?_
  have h1 : U * S < W ^ n * S := Nat.mul_lt_mul_of_pos_right hU hS
  have h2 : W ^ (n + 1 - m) * (W ^ (m - 1) * S) ≤ W ^ (n + 1 - m) * v := Nat.mul_le_mul_left _ hv
  rw [← Nat.mul_assoc, ← Nat.pow_add, show n + 1 - m + (m - 1) = n by omega] at h2
  omega

/-- the two highest words of the divisor -/
theorem two_top {W : Nat} (hW : 1 < W) (vs : List Nat) (hd : Dg W vs) (m : Nat) (hl : vs.length = m + 2) : ∃ Vlow, Vlow < W ^ m ∧ V W vs = (vs[m + 1] * W + vs[m]) * W ^ m + Vlow := by
  have h1 := V_take_drop (B := W) vs m (by omega)
  have h2 := V_drop_succ (B := W) vs m (by omega)
  have h3 := V_drop_succ (B := W) vs (m + 1) (by omega)
  rw [show vs.drop (m + 1 + 1) = [] from List.drop_of_length_le (by omega)] at h3
  rw [h3] at h2
  rw [h2] at h1
  refine ⟨V W (vs.take m), ?_, ?_⟩
  · have := (hd.take m).lt
    rw [List.length_take, Nat.min_eq_left (by omega)] at this
    exact this
  · rw [h1, Nat.mul_comm (W ^ m)]; simp
    rw [Nat.mul_comm W, Nat.add_comm vs[m], Nat.add_comm]
end Nm
namespace Nm
/-- the divisor, shifted up so that its highest bit is set -/
theorem norm_top {W S T : Nat} (hW : 1 < W) (hST : S * T = W) (vs zs : List Nat) (hv : Dg W vs) (hz : Dg W zs) (m t : Nat) (lv : vs.length = m + 2) (lz : zs.length = m + 2 + 1) (ht : t = vs[m + 1])
    (e : V W zs = V W vs * S) (h1 : W ≤ 2 * (t * S)) (h2 : t * S < W) (hS : 0 < S) :
    V W zs < W ^ (m + 2) ∧ W ≤ 2 * zs[m + 1] ∧ V W (zs.take (m + 2)) = V W zs ∧ W ^ (m + 1) * S ≤ V W zs := by
  have a1 := V_take_drop (B := W) vs (m + 1) (by omega)
  have a2 := V_drop_succ (B := W) vs (m + 1) (by omega)
  rw [show vs.drop (m + 1 + 1) = [] from List.drop_of_length_le (by omega), ← ht] at a2
  simp only [V_nil, Nat.mul_zero, Nat.add_zero] at a2
  rw [a2] at a1
  have a3 := (hv.take (m + 1)).lt
  rw [List.length_take, Nat.min_eq_left (by omega)] at a3
  generalize V W (vs.take (m + 1)) = lo at *
  have hp : 0 < W ^ (m + 1) := Nat.pow_pos (by omega)
  have hT : t < T := by
    refine Nat.lt_of_not_le fun hge => ?_
    have := Nat.mul_le_mul_left S hge
    rw [hST, Nat.mul_comm] at this; omega
  have b1 : (t + 1) * S ≤ W := by rw [← hST, Nat.mul_comm S]; exact Nat.mul_le_mul_right _ hT
  have b2 : (lo + 1) * S ≤ W ^ (m + 1) * S := Nat.mul_le_mul_right _ a3
  have b3 : W ^ (m + 1) * ((t + 1) * S) ≤ W ^ (m + 1) * W := Nat.mul_le_mul_left _ b1
  have c0 : V W zs = lo * S + W ^ (m + 1) * (t * S) := by rw [e, a1, Nat.add_mul, Nat.mul_assoc]
  rw [Nat.add_mul, Nat.one_mul] at b2
  rw [Nat.add_mul, Nat.one_mul, Nat.mul_add] at b3
  have p2 : W ^ (m + 2) = W ^ (m + 1) * W := Nat.pow_succ ..
  have lt : V W zs < W ^ (m + 2) := by rw [p2]; omega
  have d1 := V_take_drop (B := W) zs (m + 2) (by omega)
  have d0 : V W (zs.drop (m + 2)) = 0 := by rw [V_drop_eq zs hz _ (by omega)]; exact Nat.div_eq_of_lt lt
  rw [d0, Nat.mul_zero, Nat.add_zero] at d1
  refine ⟨lt, ?_, d1.symm, ?_⟩
  · rw [dig_get zs hz (m + 1) (by omega), c0, Nat.add_mul_div_left _ _ hp]
    have f1 : lo * S / W ^ (m + 1) + t * S < W := by
      rw [← Nat.add_mul_div_left _ _ hp, ← c0]
      refine Nat.div_lt_of_lt_mul ?_
      rw [← p2]; exact lt
    rw [Nat.mod_eq_of_lt f1]
    generalize lo * S / W ^ (m + 1) = q at *
    omega
  · have t1 : 1 ≤ t := by
      rcases Nat.eq_zero_or_pos t with h0 | h0
      · subst h0; simp at h1; omega
      · exact h0
    have : W ^ (m + 1) * (1 * S) ≤ W ^ (m + 1) * (t * S) := Nat.mul_le_mul_left _ (Nat.mul_le_mul_right _ t1)
    rw [Nat.one_mul] at this; omega
end Nm
