/-
  Contract of the reference Mul.
-/
import Derived.Test.YthkgldpcgmnaiaaDoorRefSub
set_option linter.unusedVariables false
set_option linter.unusedSimpArgs false
namespace Go.Proofs.YthkgldpcgmnaiaaDoor
open Go.RowKit Nm

theorem mul_small (x z : Nat) (hx : x < 65536) (hz : z < 65536) : x * z ≤ 4294836225 := Nat.mul_le_mul (show x ≤ 65535 by omega) (show z ≤ 65535 by omega)

theorem vk_mul_lt (xs ys : List Nat) (hx : Dg 65536 xs) (hy : Dg 65536 ys) (i m : Nat) (hm : ys.length = m) : vk xs i * V 65536 ys < 65536 ^ (i + m) := by
  have h1 : vk xs i < 65536 ^ i := by
    unfold vk
    exact Nat.lt_of_lt_of_le (hx.take i).lt (Nat.pow_le_pow_right (by omega) (by rw [List.length_take]; omega))
  have h2 := hy.lt
  rw [hm] at h2
  rw [Nat.pow_add]
  exact Nat.mul_lt_mul'' h1 h2

set_option maxHeartbeats 4000000 in
theorem refMul_n {p q : Option Addr} {n c m d N M : Nat} {w : World} (hA : IsN w p n c N) (hB : IsN w q m d M) (hn : n ≤ 1200000) (hm : m ≤ 1200000) :
    Calls Tryd.prog 52 #[.slice p n c, .slice q m d] w fun e w' => ∃ p' n' c', e = .returned (.slice p' n' c') ∧ IsC w' p' n' c' (N * M) ∧ n' ≤ n + m + 1 ∧ w.grownBy w' none := by
  obtain ⟨xs, h1, hx, rfl⟩ := hA
  obtain ⟨ys, k1, hy, rfl⟩ := hB
  have hmax := h1.max
  have hcap := h1.cap
  have HLX := hid h1.len
  have HLY := hid k1.len
  have R2 := hid (fun W (h : IRd W .u16 q m d ys) i => refLimb_val q m d ys W h hy i)
  have HVL := hid (fun i => vk_mul_lt xs ys hx hy i m HLY.out)
  obtain ⟨Y, hY⟩ : ∃ Y, Y = V 65536 ys := ⟨_, rfl⟩
  have HY := hid hY
  clear hY
  obtain ⟨g, hg⟩ : ∃ g, g = w.heap.size := ⟨_, rfl⟩
  go_enter Tryd.func52, Tryd.ntmps52
  go_wp2_with (at_make; refine wl_make _ rfl _ _ 23 rfl 47 .u16 2 Tryd.underlying23 (by kernel_rfl) _ _ _ _ rfl rfl (n + m + 1) (by omega) (by omega) (by omega) (by omega) ?_; intro w1 hr1 hg1)
  rw [← hg] at hr1 ⊢
  have HG := hid hg
  clear hg
  go_loopw [6] (fun i wr => ∃ (k : Nat) (cur : List Nat), k ≤ n ∧ i = .int .i64 k ∧ IRow wr g 47 .u16 cur ∧ w1.grownBy wr (some g) ∧ Hid (cur.length = n + m + 1 ∧ Dg 65536 cur ∧ V 65536 cur = vk xs k * Y)) (fun i _ => n - (intOf i).toNat)
  case atStart => exact ⟨0, _, Nat.zero_le _, rfl, hr1, grown_refl _ _, hid ⟨by simp, Dg.zeros (by omega) _, by simp [V_zeros, vk]⟩⟩
  case round =>
    obtain ⟨i, cur, hi, rfl, hrow, hgr, HC⟩ := hrel
    by_cases hlt : i < n
    · have hiu : i < xs.length := by rw [HLX.out]; exact hlt
      obtain ⟨b, o, rfl, hc1⟩ := h1.cel i hiu
      have hbl := World.block_lt_of_cell? _ _ hc1
      obtain ⟨x, hx'⟩ : ∃ x, x = xs[i] := ⟨_, rfl⟩
      rw [← hx'] at hc1
      have hxb : x < 65536 := by rw [hx']; exact hx.get i hiu
      have HX : Hid (vk xs (i + 1) = vk xs i + 65536 ^ i * x) := hid (by rw [vk_succ, hx']; unfold lb; rw [List.getElem?_eq_getElem hiu]; rfl)
      clear hx'
      have ti : (i : Int) < (n : Int) := by omega
      go_wp2_with fail
      go_loopw [7, 8] (fun cy s wq => ∃ (k y : Nat) (cu : List Nat), k ≤ m + 1 ∧ s = .int .i64 k ∧ cy = .int .u64 y ∧ y < 65536 ∧ IRow wq g 47 .u16 cu ∧ w1.grownBy wq (some g) ∧
          Hid (cu.length = n + m + 1 ∧ Dg 65536 cu ∧ V 65536 cu + 65536 ^ (i + k) * y = vk xs i * Y + 65536 ^ i * (x * vk ys k))) (fun _ s _ => m + 1 - (intOf s).toNat)
      case atStart => exact ⟨0, 0, cur, by omega, rfl, rfl, by omega, hrow, hgr, hid ⟨HC.out.1, HC.out.2.1, by rw [HC.out.2.2]; simp [vk]⟩⟩
      case round =>
        obtain ⟨k, y, cu, hk, rfl, rfl, hyb, hrow, hgr, HC⟩ := hrel
        by_cases hend : m ≤ k ∧ y = 0
        · obtain ⟨he1, rfl⟩ := hend
          have t1 : ¬ ((k : Int) < (m : Int)) := by omega
          go_wp2
          refine ⟨⟨i + 1, cu, by omega, rfl, hrow, hgr, hid ⟨HC.out.1, HC.out.2.1, ?_⟩⟩, by simp [intOf]; omega⟩
          have h2 := HC.out.2.2
          rw [vk_all ys k (by rw [HLY.out]; exact he1), ← HY.out, Nat.mul_zero, Nat.add_zero] at h2
          rw [h2, HX.out, Nat.add_mul, Nat.mul_assoc]
        · have hkm : k < m + 1 := by
            rcases Nat.lt_or_ge k (m + 1) with h | h
            · exact h
            · obtain rfl : k = m + 1 := by omega
              have hyp : y ≠ 0 := fun e => hend ⟨by omega, e⟩
              have h2 := HC.out.2.2
              rw [vk_all ys _ (by rw [HLY.out]; omega), ← HY.out, ← Nat.mul_assoc, ← Nat.add_mul, ← HX.out] at h2
              have h3 := HVL.out (i + 1)
              rw [← HY.out] at h3
              have := carry_place h2 h3 hyp (by omega)
              omega
          have hcl : i + k < cu.length := by rw [HC.out.1]; omega
          have hcc := hrow.cell (i + k) hcl
          have hfr := hrow.free (i + k)
          obtain ⟨t, ht⟩ : ∃ t, t = cu[i + k] := ⟨_, rfl⟩
          rw [← ht] at hcc
          have htb : t < 65536 := by rw [ht]; exact HC.out.2.1.get _ hcl
          have HTT := hid ht
          have hgw : w.grownBy wr none := grown_new hg1 hgr (fun g' e' => by cases e'; rw [HG.out]; exact Nat.le_refl _)
          have hca := hgw.cell hc1 (by simp)
          have b2 := lb_lt hy k
          have L2 := fun W h => R2.out W h k
          have v2 := vk_succ ys k
          generalize lb ys k = z at *
          have hyw := k1.keep hgw
          have H2 := hid L2
          have HV2 := hid v2
          clear ht L2 v2
          have hm1 := mul_small x z hxb b2
          have hm2 : (x : Int) * (z : Int) ≤ 4294836225 := by rw [← Int.natCast_mul]; omega
          have hm3 : (0 : Int) ≤ (x : Int) * (z : Int) := by rw [← Int.natCast_mul]; omega
          have hcase : ((k : Int) < (m : Int)) ∨ (¬ ((k : Int) < (m : Int)) ∧ (0 : Int) < (y : Int)) := by
            have : m ≤ k → ¬ y = 0 := fun h e => hend ⟨h, e⟩
            omega
          have hik : (0 : Int) ≤ (i : Int) + k := by omega
          have hik2 : (i : Int) + k < (n : Int) + m + 1 := by omega
          clear hend
          rcases hcase with t1 | ⟨t1, t2⟩
          all_goals
            go_wp2
            go_quiet ((go_at_call 71; exact quiet_same (H2.out _ (hyw.keep (grown_drewN _ _ _)))))
            go_wp2
            have e0 : (t : Int) + (x : Int) * z + y = ((t + x * z + y : Nat) : Int) := by simp
            have hs := step_add (B := 65536) cu (i + k) ((t + x * z + y) % 65536) ((t + x * z + y) / 65536) (x * z + y) hcl (by rw [← HTT.out]; omega)
            refine ⟨⟨k + 1, (t + x * z + y) / 65536, _, by omega, rfl, ?_, by omega, hrow.setv _ _ ((t + x * z + y) % 65536) ?_, grown_trans (gdN hgr _) (grown_setCell _ _ _), hid ⟨by simpa using HC.out.1, HC.out.2.1.set _ _ (Nat.mod_lt _ (by omega)), ?_⟩⟩, by simp [intOf]; omega⟩
            · congr 1
            · omega
            · have h2 := HC.out.2.2
              have e1 : 65536 ^ i * (65536 ^ k * (x * z)) = 65536 ^ (i + k) * (x * z) := by rw [← Nat.mul_assoc, ← Nat.pow_add]
              rw [HV2.out, Nat.mul_add x, Nat.mul_add (65536 ^ i), Nat.mul_left_comm x, e1]
              rw [Nat.mul_add (65536 ^ (i + k)) (x * z) y] at hs
              rw [show i + (k + 1) = i + k + 1 by omega]
              omega
    · obtain rfl : i = n := by omega
      have HN : Hid (IsN wr (some ⟨g, 0, none⟩) (i + m + 1) (i + m + 1) (V 65536 xs * V 65536 ys)) := hid ⟨cur, by have := hrow.rd0 (by rw [HC.out.1]; omega); rwa [HC.out.1] at this, HC.out.2.1, by
        rw [HC.out.2.2, vk_all xs i (by rw [HLX.out]; exact Nat.le_refl _), HY.out]⟩
      go_wp2_with fail
      refine (refNorm_n HN.out (by omega)).mono ?_
      rintro e w' ⟨p2, n2, c2, rfl, hc, hn2, hg⟩
      go_wp2_with fail
      go_ret
      exact ⟨p2, n2, c2, rfl, hc, by omega, grown_trans (grown_new hg1 hgr (fun g' e' => by cases e'; rw [HG.out]; exact Nat.le_refl _)) hg⟩
end Go.Proofs.YthkgldpcgmnaiaaDoor
