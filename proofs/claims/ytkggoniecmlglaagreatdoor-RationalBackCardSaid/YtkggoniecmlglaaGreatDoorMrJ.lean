/-
  RefAdd RefSub RefMul DivN RefDiv, in one text.
-/
import Derived.Test.YtkggoniecmlglaaGreatDoorVal
import Derived.Test.YtkggoniecmlglaaGreatDoorDivS
import Derived.Test.YtkggoniecmlglaaGreatDoorDivide

set_option linter.unusedVariables false
set_option linter.unusedSimpArgs false
namespace Go.Proofs.YtkggoniecmlglaaGreatDoor
open Go.RowKit Nm

/-- the value of the first k limbs, counted behind the end as zeros -/
def vk (xs : List Nat) (k : Nat) : Nat := V 65536 (xs.take k)
theorem vk_succ (xs : List Nat) (k : Nat) : vk xs (k + 1) = vk xs k + 65536 ^ k * lb xs k := by
  unfold vk lb
  by_cases h : k < xs.length
  · rw [V_take_succ xs k h, List.getElem?_eq_getElem h]; rfl
  · rw [List.take_of_length_le (by omega), List.take_of_length_le (by omega), List.getElem?_eq_none (by omega)]; simp
theorem vk_all (xs : List Nat) (k : Nat) (h : xs.length ≤ k) : vk xs k = V 65536 xs := by unfold vk; rw [List.take_of_length_le h]
theorem V_snoc (zs : List Nat) (y : Nat) : V 65536 (zs ++ [y]) = V 65536 zs + 65536 ^ zs.length * y := by simp [V_append]

/-- what a reference's result is: the valid Nat of a number -/
theorem refNorm_n {w : World} {p : Option Addr} {n c N : Nat} (h : IsN w p n c N) (hn : n ≤ 4000000) :
    Calls Tryz.prog 58 #[.slice p n c] w fun e w' => ∃ p' n' c', e = .returned (.slice p' n' c') ∧ IsC w' p' n' c' N ∧ n' ≤ n ∧ w.grownBy w' none := by
  obtain ⟨L, h1, h2, rfl⟩ := h
  refine (refNorm_any p n c L w h1 hn).mono fun e w' ⟨p', c', h, hr, hg⟩ => ⟨p', _, c', h, ?_, ?_, hg⟩
  · unfold IsC; rw [← trimR_dg (by omega) h2]; exact hr
  · rw [← h1.len]; exact trimR_length_le L

set_option maxHeartbeats 2000000 in
theorem refAdd_n {p q : Option Addr} {n c m d N M : Nat} {w : World} (hA : IsN w p n c N) (hB : IsN w q m d M) (hn : n ≤ 900000) (hm : m ≤ 900000) :
    Calls Tryz.prog 62 #[.slice p n c, .slice q m d] w fun e w' => ∃ p' n' c', e = .returned (.slice p' n' c') ∧ IsC w' p' n' c' (N + M) ∧ n' ≤ n + m + 1 ∧ w.grownBy w' none := by
  obtain ⟨xs, h1, hx, rfl⟩ := hA
  obtain ⟨ys, k1, hy, rfl⟩ := hB
  have hmax := h1.max
  have hcap := h1.cap
  have kmax := k1.max
  have kcap := k1.cap
  have HLX := hid h1.len
  have HLY := hid k1.len
  obtain ⟨L, hL⟩ : ∃ L, L = max n m := ⟨_, rfl⟩
  have hL1 : n ≤ L := by omega
  have hL2 : m ≤ L := by omega
  have hL3 : L ≤ 900000 := by omega
  have hL4 : L ≤ n + m := by omega
  have HL := hid hL
  have htot : V 65536 xs + V 65536 ys < 65536 ^ (L + 1) := by
    have e1 := hx.lt
    have e2 := hy.lt
    rw [HLX.out] at e1
    rw [HLY.out] at e2
    have e3 : 65536 ^ n ≤ 65536 ^ L := Nat.pow_le_pow_right (by omega) (by omega)
    have e4 : 65536 ^ m ≤ 65536 ^ L := Nat.pow_le_pow_right (by omega) (by omega)
    rw [Nat.pow_succ]; omega
  have HT := hid htot
  have R1 := hid (fun W (h : IRd W .u16 p n c xs) i => refLimb_val p n c xs W h hx i)
  have R2 := hid (fun W (h : IRd W .u16 q m d ys) i => refLimb_val q m d ys W h hy i)
  clear hL htot
  go_enter Tryz.func62, Tryz.ntmps62
  go_wp2_with fail
  go_loopw [5, 6, 7] (fun s cy i wr => ∃ (k y : Nat) (p' : Option Addr) (c' : Nat) (zs : List Nat), k ≤ L + 1 ∧ i = .int .i64 k ∧ cy = .int .i64 y ∧ y ≤ 1 ∧ s = .slice p' k c' ∧ IOwn wr w.heap.size 44 .u16 p' k c' zs ∧ w.grownBy wr none ∧
      Hid (Dg 65536 zs ∧ V 65536 zs + 65536 ^ k * y = vk xs k + vk ys k)) (fun _ _ i _ => L + 1 - (intOf i).toNat)
  case atStart => exact ⟨0, 0, none, 0, [], by omega, rfl, rfl, by omega, rfl, IOwn.nil _ _ _ _, grown_refl _ _, hid ⟨Dg.nil, by simp [vk]⟩⟩
  case round =>
    obtain ⟨k, y, p', c', zs, hk, rfl, rfl, hy1, rfl, ho, hgr, HC⟩ := hrel
    by_cases hend : L ≤ k ∧ y = 0
    · obtain ⟨he1, rfl⟩ := hend
      have t1 : ¬ ((k : Int) < (n : Int)) := by omega
      have t2 : ¬ ((k : Int) < (m : Int)) := by omega
      have HN : Hid (IsN wr p' k c' (V 65536 xs + V 65536 ys)) := hid ⟨zs, ho.rd, HC.out.1, by
        have := HC.out.2
        rw [vk_all xs k (by rw [HLX.out]; omega), vk_all ys k (by rw [HLY.out]; omega)] at this
        simpa using this⟩
      go_wp2_with fail
      refine (refNorm_n HN.out (by omega)).mono ?_
      rintro e w' ⟨p2, n2, c2, rfl, hc, hn2, hg⟩
      go_wp2_with fail
      go_ret
      exact ⟨p2, n2, c2, rfl, hc, by omega, grown_trans hgr hg⟩
    · have hkL : k < L + 1 := by
        rcases Nat.lt_or_ge k (L + 1) with h | h
        · exact h
        · obtain rfl : k = L + 1 := by omega
          have hyp : y ≠ 0 := fun e => hend ⟨by omega, e⟩
          have := HC.out.2
          rw [vk_all xs _ (by rw [HLX.out]; omega), vk_all ys _ (by rw [HLY.out]; omega)] at this
          have := carry_place this HT.out hyp (by omega)
          omega
      have hx' := h1.keep hgr
      have hy' := k1.keep hgr
      have b1 := lb_lt hx k
      have b2 := lb_lt hy k
      have L1 := R1.out wr hx' k
      have L2 := R2.out wr hy' k
      have v1 := vk_succ xs k
      have v2 := vk_succ ys k
      generalize lb xs k = x at *
      generalize lb ys k = z at *
      have H1 := hid L1
      have H2 := hid L2
      have HV := hid (And.intro v1 v2)
      clear L1 L2 v1 v2
      have hcase : ((k : Int) < (n : Int)) ∨ (¬ ((k : Int) < (n : Int)) ∧ (k : Int) < (m : Int)) ∨ (¬ ((k : Int) < (n : Int)) ∧ ¬ ((k : Int) < (m : Int)) ∧ (0 : Int) < (y : Int)) := by
        have := HL.out
        have : L ≤ k → ¬ y = 0 := fun h e => hend ⟨h, e⟩
        omega
      clear hend
      have hmi : (x + z + y) % 65536 < 65536 := Nat.mod_lt _ (by omega)
      have hok : w.heap.size ≤ wr.heap.size := hgr.size
      have fin : ∀ zs', zs' = zs ++ [(x + z + y) % 65536] → Hid (Dg 65536 zs' ∧ V 65536 zs' + 65536 ^ (k + 1) * ((x + z + y) / 65536) = vk xs (k + 1) + vk ys (k + 1)) := by
        intro zs' e
        subst e
        refine hid ⟨HC.out.1.append (Dg.cons hmi Dg.nil), ?_⟩
        rw [V_snoc, HV.out.1, HV.out.2, ho.1, Nat.pow_succ, Nat.mul_assoc]
        have h2 := HC.out.2
        have h3 : 65536 ^ k * ((x + z + y) % 65536) + 65536 ^ k * (65536 * ((x + z + y) / 65536)) = 65536 ^ k * x + 65536 ^ k * z + 65536 ^ k * y := by
          rw [← Nat.mul_add, Nat.mod_add_div, Nat.mul_add, Nat.mul_add]
        omega
      have FIN := hid fin
      clear fin
      rcases hcase with t1 | ⟨t1, t2⟩ | ⟨t1, t2, t3⟩
      all_goals
        go_wp2_with (first
          | (go_at_call 93; (with_reducible refine (H1.out).mono ?_); rintro e w' ⟨rfl, rfl⟩)
          | (go_at_call 93; (with_reducible refine (H2.out).mono ?_); rintro e w' ⟨rfl, rfl⟩)
          | (with_reducible refine wl_append _ rfl (.tmp 34) (.tmp 38) 23 rfl 44 .u16 2 Tryz.underlying23 info16 w.heap.size _ _ _ zs rfl (ho.alloc _) _ 1 1 [(x + z + y) % 65536] rfl (one_rd _ _ _ _ _ (by first | rfl | (rw [IntKind.wrap_u16]; omega) | omega)) (by omega) (by omega) w (grown_trans hgr (World.grownBy_alloc _ _ _)) (Nat.le_refl _) (by simp; omega) ?_; intro p2 c2 w2 ho2 hg2))
        exact ⟨⟨k + 1, (x + z + y) / 65536, _, _, _, by omega, rfl, by congr 1, by omega, rfl, ho2, hg2, FIN.out _ rfl⟩, by simp [intOf]; omega⟩
end Go.Proofs.YtkggoniecmlglaaGreatDoor

set_option linter.unusedVariables false
set_option linter.unusedSimpArgs false
namespace Go.Proofs.YtkggoniecmlglaaGreatDoor
open Go.RowKit Nm

theorem refCmp_n {p q : Option Addr} {n c m d N M : Nat} {w : World} (hA : IsN w p n c N) (hB : IsN w q m d M) :
    Calls Tryz.prog 118 #[.slice p n c, .slice q m d] w fun e w' => e = .returned (.int .i64 (cmpI (N : Nat) (M : Nat))) ∧ w = w' := by
  obtain ⟨L, h1, h2, rfl⟩ := hA
  obtain ⟨K, k1, k2, rfl⟩ := hB
  exact refCmp_any p q n m c d L K w h1 k1 h2 k2

theorem refSub_e {p q : Option Addr} {n c m d N M : Nat} {w : World} (hA : IsN w p n c N) (hB : IsN w q m d M) (hlt : N < M) :
    Calls Tryz.prog 92 #[.slice p n c, .slice q m d] w fun e w' => e = .returned (.tuple #[.slice none 0 0, .int .i64 2]) ∧ w = w' := by
  have H1 := hid (refCmp_n hA hB)
  have HLT := hid (cmpI_lt hlt)
  clear hlt
  go_enter Tryz.func92, Tryz.ntmps92
  go_wp2_with fail
  refine H1.out.mono ?_
  rw [HLT.out]
  rintro e w' ⟨rfl, rfl⟩
  go_wp2_with fail
  go_ret2
  exact ⟨rfl, rfl⟩

set_option maxHeartbeats 2000000 in
theorem refSub_n {p q : Option Addr} {n c m d N M : Nat} {w : World} (hA : IsN w p n c N) (hB : IsN w q m d M) (hn : n ≤ 900000) (hle : M ≤ N) :
    Calls Tryz.prog 92 #[.slice p n c, .slice q m d] w fun e w' => ∃ p' n' c', e = .returned (.tuple #[.slice p' n' c', .int .i64 0]) ∧ IsC w' p' n' c' (N - M) ∧ n' ≤ n ∧ w.grownBy w' none := by
  have hc0 : 0 ≤ cmpI (N : Nat) (M : Nat) := by
    rcases Nat.lt_or_ge M N with h1 | h1
    · rw [cmpI_gt h1]; decide
    · rw [show N = M by omega, cmpI_eq]; decide
  have HC0 := hid (refCmp_n hA hB)
  generalize cmpI (N : Nat) (M : Nat) = s at *
  obtain ⟨xs, h1, hx, rfl⟩ := hA
  obtain ⟨ys, k1, hy, rfl⟩ := hB
  have hmax := h1.max
  have hcap := h1.cap
  have HLX := hid h1.len
  have HLY := hid k1.len
  have hxl := hx.lt
  rw [HLX.out] at hxl
  have hyt : vk ys n = V 65536 ys := by
    by_cases hm : ys.length ≤ n
    · exact vk_all ys n hm
    · unfold vk; rw [V_take_eq ys hy n (by omega), Nat.mod_eq_of_lt (by omega)]
  have HYT := hid hyt
  have HXL := hid hxl
  have HLE := hid hle
  have R1 := hid (fun W (h : IRd W .u16 p n c xs) i => refLimb_val p n c xs W h hx i)
  have R2 := hid (fun W (h : IRd W .u16 q m d ys) i => refLimb_val q m d ys W h hy i)
  clear hyt hxl hle
  go_enter Tryz.func92, Tryz.ntmps92
  go_wp2_with fail
  refine HC0.out.mono ?_
  rintro e w' ⟨rfl, rfl⟩
  go_wp2_with fail
  go_loopw [6, 7, 8] (fun s cy i wr => ∃ (k y : Nat) (p' : Option Addr) (c' : Nat) (zs : List Nat), k ≤ n ∧ i = .int .i64 k ∧ cy = .int .i64 y ∧ y ≤ 1 ∧ s = .slice p' k c' ∧ IOwn wr w.heap.size 44 .u16 p' k c' zs ∧ w.grownBy wr none ∧
      Hid (Dg 65536 zs ∧ V 65536 zs + vk ys k = vk xs k + 65536 ^ k * y)) (fun _ _ i _ => n - (intOf i).toNat)
  case atStart => exact ⟨0, 0, none, 0, [], by omega, rfl, rfl, by omega, rfl, IOwn.nil _ _ _ _, grown_refl _ _, hid ⟨Dg.nil, by simp [vk]⟩⟩
  case round =>
    obtain ⟨k, y, p', c', zs, hk, rfl, rfl, hy1, rfl, ho, hgr, HC⟩ := hrel
    by_cases hlt : k < n
    · have hx' := h1.keep hgr
      have hy' := k1.keep hgr
      have b1 := lb_lt hx k
      have b2 := lb_lt hy k
      have L1 := R1.out wr hx' k
      have L2 := R2.out wr hy' k
      have v1 := vk_succ xs k
      have v2 := vk_succ ys k
      generalize lb xs k = x at *
      generalize lb ys k = z at *
      have H1 := hid L1
      have H2 := hid L2
      have HV := hid (And.intro v1 v2)
      clear L1 L2 v1 v2
      have hok : w.heap.size ≤ wr.heap.size := hgr.size
      have t1 : (k : Int) < (n : Int) := by omega
      have fin : ∀ r b, r + (z + y) = x + 65536 * b → r < 65536 → Hid (Dg 65536 (zs ++ [r]) ∧ V 65536 (zs ++ [r]) + vk ys (k + 1) = vk xs (k + 1) + 65536 ^ (k + 1) * b) := by
        intro r b e hr
        refine hid ⟨HC.out.1.append (Dg.cons hr Dg.nil), ?_⟩
        rw [V_snoc, HV.out.1, HV.out.2, ho.1, Nat.pow_succ, Nat.mul_assoc]
        have h2 := HC.out.2
        have h3 : 65536 ^ k * (r + (z + y)) = 65536 ^ k * (x + 65536 * b) := by rw [e]
        rw [Nat.mul_add, Nat.mul_add, Nat.mul_add] at h3
        omega
      have FIN := hid fin
      clear fin
      by_cases hb : x < z + y
      · have t2 : (x : Int) - z - y < 0 := by omega
        go_wp2_with (first
          | (go_at_call 93; (with_reducible refine (H1.out).mono ?_); rintro e w' ⟨rfl, rfl⟩)
          | (go_at_call 93; (with_reducible refine (H2.out).mono ?_); rintro e w' ⟨rfl, rfl⟩)
          | (with_reducible refine wl_append _ rfl (.tmp 33) (.tmp 36) 23 rfl 44 .u16 2 Tryz.underlying23 info16 w.heap.size _ _ _ zs rfl (ho.alloc _) _ 1 1 [x + 65536 - z - y] rfl (one_rd _ _ _ _ _ (by first | rfl | (rw [IntKind.wrap_u16]; omega) | omega)) (by omega) (by omega) w (grown_trans hgr (World.grownBy_alloc _ _ _)) (Nat.le_refl _) (by simp; omega) ?_; intro p2 c2 w2 ho2 hg2))
        exact ⟨⟨k + 1, 1, _, _, _, by omega, rfl, rfl, by omega, rfl, ho2, hg2, FIN.out _ _ (by omega) (by omega)⟩, by simp [intOf]; omega⟩
      · have t2 : ¬ ((x : Int) - z - y < 0) := by omega
        go_wp2_with (first
          | (go_at_call 93; (with_reducible refine (H1.out).mono ?_); rintro e w' ⟨rfl, rfl⟩)
          | (go_at_call 93; (with_reducible refine (H2.out).mono ?_); rintro e w' ⟨rfl, rfl⟩)
          | (with_reducible refine wl_append _ rfl (.tmp 33) (.tmp 36) 23 rfl 44 .u16 2 Tryz.underlying23 info16 w.heap.size _ _ _ zs rfl (ho.alloc _) _ 1 1 [x - z - y] rfl (one_rd _ _ _ _ _ (by first | rfl | (rw [IntKind.wrap_u16]; omega) | omega)) (by omega) (by omega) w (grown_trans hgr (World.grownBy_alloc _ _ _)) (Nat.le_refl _) (by simp; omega) ?_; intro p2 c2 w2 ho2 hg2))
        exact ⟨⟨k + 1, 0, _, _, _, by omega, rfl, rfl, by omega, rfl, ho2, hg2, FIN.out _ _ (by omega) (by omega)⟩, by simp [intOf]; omega⟩
    · obtain rfl : k = n := by omega
      have HN : Hid (IsN wr p' k c' (V 65536 xs - V 65536 ys)) := hid ⟨zs, ho.rd, HC.out.1, by
        have h2 := HC.out.2
        rw [vk_all xs k (by rw [HLX.out]; omega), HYT.out] at h2
        have h3 := HC.out.1.lt
        rw [ho.1] at h3
        have h4 := HLE.out
        have h5 := HXL.out
        have : y = 0 := by
          rcases Nat.eq_zero_or_pos y with h | h
          · exact h
          · have := borrow_place h2 h4 h3 (by omega) (by omega); omega
        subst this
        simp at h2; omega⟩
      go_wp2_with fail
      refine (refNorm_n HN.out (by omega)).mono ?_
      rintro e w' ⟨p2, n2, c2, rfl, hc, hn2, hg⟩
      go_wp2_with fail
      go_ret2
      exact ⟨p2, n2, c2, rfl, hc, by omega, grown_trans hgr hg⟩
end Go.Proofs.YtkggoniecmlglaaGreatDoor

set_option linter.unusedVariables false
set_option linter.unusedSimpArgs false
namespace Go.Proofs.YtkggoniecmlglaaGreatDoor
open Go.RowKit Nm

theorem mul_small (x z : Nat) (hx : x < 65536) (hz : z < 65536) : x * z ≤ 4294836225 := Nat.mul_le_mul (show x ≤ 65535 by omega) (show z ≤ 65535 by omega)

theorem vk_mul_lt (xs ys : List Nat) (hx : Dg 65536 xs) (hy : Dg 65536 ys) (i m : Nat) (hm : ys.length = m) : vk xs i * V 65536 ys < 65536 ^ (i + m) := by
  have h1 : vk xs i < 65536 ^ i := by
    unfold vk
    exact Nat.lt_of_lt_of_le (hx.take i).lt (Nat.pow_le_pow_right (by omega) (by rw [List.length_take]; omega))
  have h2 := hy.lt
  rw [hm] at h2
  rw [Nat.pow_add]
  exact Nat.mul_lt_mul'' h1 h2

set_option maxHeartbeats 4000000 in
theorem refMul_n {p q : Option Addr} {n c m d N M : Nat} {w : World} (hA : IsN w p n c N) (hB : IsN w q m d M) (hn : n ≤ 400000) (hm : m ≤ 400000) :
    Calls Tryz.prog 63 #[.slice p n c, .slice q m d] w fun e w' => ∃ p' n' c', e = .returned (.slice p' n' c') ∧ IsC w' p' n' c' (N * M) ∧ n' ≤ n + m + 1 ∧ w.grownBy w' none := by
  obtain ⟨xs, h1, hx, rfl⟩ := hA
  obtain ⟨ys, k1, hy, rfl⟩ := hB
  have hmax := h1.max
  have hcap := h1.cap
  have HLX := hid h1.len
  have HLY := hid k1.len
  have R2 := hid (fun W (h : IRd W .u16 q m d ys) i => refLimb_val q m d ys W h hy i)
  have HVL := hid (fun i => vk_mul_lt xs ys hx hy i m HLY.out)
  obtain ⟨Y, hY⟩ : ∃ Y, Y = V 65536 ys := ⟨_, rfl⟩
  have HY := hid hY
  clear hY
  obtain ⟨g, hg⟩ : ∃ g, g = w.heap.size := ⟨_, rfl⟩
  go_enter Tryz.func63, Tryz.ntmps63
  go_wp2_with (at_make; refine wl_make _ rfl _ _ 23 rfl 44 .u16 2 Tryz.underlying23 (by kernel_rfl) _ _ _ _ rfl rfl (n + m + 1) (by omega) (by omega) (by omega) (by omega) ?_; intro w1 hr1 hg1)
  rw [← hg] at hr1 ⊢
  have HG := hid hg
  clear hg
  go_loopw [6] (fun i wr => ∃ (k : Nat) (cur : List Nat), k ≤ n ∧ i = .int .i64 k ∧ IRow wr g 44 .u16 cur ∧ w1.grownBy wr (some g) ∧ Hid (cur.length = n + m + 1 ∧ Dg 65536 cur ∧ V 65536 cur = vk xs k * Y)) (fun i _ => n - (intOf i).toNat)
  case atStart => exact ⟨0, _, Nat.zero_le _, rfl, hr1, grown_refl _ _, hid ⟨by simp, Dg.zeros (by omega) _, by simp [V_zeros, vk]⟩⟩
  case round =>
    obtain ⟨i, cur, hi, rfl, hrow, hgr, HC⟩ := hrel
    by_cases hlt : i < n
    · have hiu : i < xs.length := by rw [HLX.out]; exact hlt
      obtain ⟨b, o, rfl, hc1⟩ := h1.cel i hiu
      have hbl := World.block_lt_of_cell? _ _ hc1
      obtain ⟨x, hx'⟩ : ∃ x, x = xs[i] := ⟨_, rfl⟩
      rw [← hx'] at hc1
      have hxb : x < 65536 := by rw [hx']; exact hx.get i hiu
      have HX : Hid (vk xs (i + 1) = vk xs i + 65536 ^ i * x) := hid (by rw [vk_succ, hx']; unfold lb; rw [List.getElem?_eq_getElem hiu]; rfl)
      clear hx'
      have ti : (i : Int) < (n : Int) := by omega
      go_wp2_with fail
      go_loopw [7, 8] (fun cy s wq => ∃ (k y : Nat) (cu : List Nat), k ≤ m + 1 ∧ s = .int .i64 k ∧ cy = .int .u64 y ∧ y < 65536 ∧ IRow wq g 44 .u16 cu ∧ w1.grownBy wq (some g) ∧
          Hid (cu.length = n + m + 1 ∧ Dg 65536 cu ∧ V 65536 cu + 65536 ^ (i + k) * y = vk xs i * Y + 65536 ^ i * (x * vk ys k))) (fun _ s _ => m + 1 - (intOf s).toNat)
      case atStart => exact ⟨0, 0, cur, by omega, rfl, rfl, by omega, hrow, hgr, hid ⟨HC.out.1, HC.out.2.1, by rw [HC.out.2.2]; simp [vk]⟩⟩
      case round =>
        obtain ⟨k, y, cu, hk, rfl, rfl, hyb, hrow, hgr, HC⟩ := hrel
        by_cases hend : m ≤ k ∧ y = 0
        · obtain ⟨he1, rfl⟩ := hend
          have t1 : ¬ ((k : Int) < (m : Int)) := by omega
          go_wp2
          refine ⟨⟨i + 1, cu, by omega, rfl, hrow, hgr, hid ⟨HC.out.1, HC.out.2.1, ?_⟩⟩, by simp [intOf]; omega⟩
          have h2 := HC.out.2.2
          rw [vk_all ys k (by rw [HLY.out]; exact he1), ← HY.out, Nat.mul_zero, Nat.add_zero] at h2
          rw [h2, HX.out, Nat.add_mul, Nat.mul_assoc]
        · have hkm : k < m + 1 := by
            rcases Nat.lt_or_ge k (m + 1) with h | h
            · exact h
            · obtain rfl : k = m + 1 := by omega
              have hyp : y ≠ 0 := fun e => hend ⟨by omega, e⟩
              have h2 := HC.out.2.2
              rw [vk_all ys _ (by rw [HLY.out]; omega), ← HY.out, ← Nat.mul_assoc, ← Nat.add_mul, ← HX.out] at h2
              have h3 := HVL.out (i + 1)
              rw [← HY.out] at h3
              have := carry_place h2 h3 hyp (by omega)
              omega
          have hcl : i + k < cu.length := by rw [HC.out.1]; omega
          have hcc := hrow.cell (i + k) hcl
          have hfr := hrow.free (i + k)
          obtain ⟨t, ht⟩ : ∃ t, t = cu[i + k] := ⟨_, rfl⟩
          rw [← ht] at hcc
          have htb : t < 65536 := by rw [ht]; exact HC.out.2.1.get _ hcl
          have HTT := hid ht
          have hgw : w.grownBy wr none := grown_new hg1 hgr (fun g' e' => by cases e'; rw [HG.out]; exact Nat.le_refl _)
          have hca := hgw.cell hc1 (by simp)
          have b2 := lb_lt hy k
          have L2 := fun W h => R2.out W h k
          have v2 := vk_succ ys k
          generalize lb ys k = z at *
          have hyw := k1.keep hgw
          have H2 := hid L2
          have HV2 := hid v2
          clear ht L2 v2
          have hm1 := mul_small x z hxb b2
          have hm2 : (x : Int) * (z : Int) ≤ 4294836225 := by rw [← Int.natCast_mul]; omega
          have hm3 : (0 : Int) ≤ (x : Int) * (z : Int) := by rw [← Int.natCast_mul]; omega
          have hcase : ((k : Int) < (m : Int)) ∨ (¬ ((k : Int) < (m : Int)) ∧ (0 : Int) < (y : Int)) := by
            have : m ≤ k → ¬ y = 0 := fun h e => hend ⟨h, e⟩
            omega
          have hik : (0 : Int) ≤ (i : Int) + k := by omega
          have hik2 : (i : Int) + k < (n : Int) + m + 1 := by omega
          clear hend
          rcases hcase with t1 | ⟨t1, t2⟩
          all_goals
            go_wp2
            go_quiet ((go_at_call 93; exact quiet_same (H2.out _ (hyw.keep (grown_drewN _ _ _)))))
            go_wp2
            have e0 : (t : Int) + (x : Int) * z + y = ((t + x * z + y : Nat) : Int) := by simp
            have hs := step_add (B := 65536) cu (i + k) ((t + x * z + y) % 65536) ((t + x * z + y) / 65536) (x * z + y) hcl (by rw [← HTT.out]; omega)
            refine ⟨⟨k + 1, (t + x * z + y) / 65536, _, by omega, rfl, ?_, by omega, hrow.setv _ _ ((t + x * z + y) % 65536) ?_, grown_trans (gdN hgr _) (grown_setCell _ _ _), hid ⟨by simpa using HC.out.1, HC.out.2.1.set _ _ (Nat.mod_lt _ (by omega)), ?_⟩⟩, by simp [intOf]; omega⟩
            · congr 1
            · omega
            · have h2 := HC.out.2.2
              have e1 : 65536 ^ i * (65536 ^ k * (x * z)) = 65536 ^ (i + k) * (x * z) := by rw [← Nat.mul_assoc, ← Nat.pow_add]
              rw [HV2.out, Nat.mul_add x, Nat.mul_add (65536 ^ i), Nat.mul_left_comm x, e1]
              rw [Nat.mul_add (65536 ^ (i + k)) (x * z) y] at hs
              rw [show i + (k + 1) = i + k + 1 by omega]
              omega
    · obtain rfl : i = n := by omega
      have HN : Hid (IsN wr (some ⟨g, 0, none⟩) (i + m + 1) (i + m + 1) (V 65536 xs * V 65536 ys)) := hid ⟨cur, by have := hrow.rd0 (by rw [HC.out.1]; omega); rwa [HC.out.1] at this, HC.out.2.1, by
        rw [HC.out.2.2, vk_all xs i (by rw [HLX.out]; exact Nat.le_refl _), HY.out]⟩
      go_wp2_with fail
      refine (refNorm_n HN.out (by omega)).mono ?_
      rintro e w' ⟨p2, n2, c2, rfl, hc, hn2, hg⟩
      go_wp2_with fail
      go_ret
      exact ⟨p2, n2, c2, rfl, hc, by omega, grown_trans (grown_new hg1 hgr (fun g' e' => by cases e'; rw [HG.out]; exact Nat.le_refl _)) hg⟩
end Go.Proofs.YtkggoniecmlglaaGreatDoor

set_option linter.unusedVariables false
set_option linter.unusedSimpArgs false
namespace Go.Proofs.YtkggoniecmlglaaGreatDoor
open Go.RowKit Nm

theorem IsC.len_le {w : World} {p : Option Addr} {n c N k : Nat} (h : IsC w p n c N) (hN : N < 65536 ^ k) : n ≤ k := by rw [← h.len]; exact dg_length_le (by omega) hN

theorem natDivMod_zero (a b : Option Addr) (n m c d : Nat) (xs ys : List Nat) (w : World) (h : IRd w .u16 a n c xs) (k : IRd w .u16 b m d ys) (hy : Dg 65536 ys) (h0 : V 65536 ys = 0) :
    Calls Tryz.prog 67 #[.slice a n c, .slice b m d] w fun e w' => e = .returned (.tuple #[.slice none 0 0, .slice none 0 0, .int .i64 3]) ∧ w = w' := by
  have R1 := hid (trim16 a n c xs w h)
  have R2 := hid (trim16 b m d ys w k)
  have hl : (trimR ys).length = 0 := by
    rw [trimR_dg (by omega) hy, h0]; rfl
  rw [hl] at R2
  clear hl h0
  generalize (trimR xs).length = lx at *
  go_enter Tryz.func67, Tryz.ntmps67
  go_wp2_with (first
    | (go_at_call 70; (with_reducible refine (R1.out).mono ?_); rintro e w' ⟨rfl, rfl⟩)
    | (go_at_call 70; (with_reducible refine (R2.out).mono ?_); rintro e w' ⟨rfl, rfl⟩))
  go_ret3
  exact ⟨rfl, rfl⟩

theorem len_words {ys : List Nat} (h : Nm.Can 65536 ys) (hl : 4 < ys.length) (vs : List Nat) (hv : Dg W64 vs) (m : Nat) (hm : m + 2 = (ys.length + 3) / 4) (lv : vs.length = m + 2) (e : V W64 vs = V 65536 ys) :
    ∀ t, vs[m + 1]? = some t → 0 < t := by
  intro t ht
  rcases Nat.eq_zero_or_pos t with h0 | h0
  · exfalso
    subst h0
    have hvl : m + 1 < vs.length := by omega
    rw [List.getElem?_eq_getElem hvl] at ht
    have a1 := V_take_drop (B := W64) vs (m + 1) (by omega)
    have a2 := V_drop_succ (B := W64) vs (m + 1) hvl
    rw [show vs.drop (m + 1 + 1) = [] from List.drop_of_length_le (by omega), Option.some.inj ht] at a2
    simp only [V_nil, Nat.mul_zero, Nat.add_zero] at a2
    rw [a2, Nat.mul_zero, Nat.add_zero] at a1
    have a3 := (hv.take (m + 1)).lt
    rw [List.length_take, Nat.min_eq_left (by omega), ← a1, e, W64_eq, ← Nat.pow_mul] at a3
    have a4 := h.low (by omega) (by intro e; subst e; simp at hl)
    have a5 : 65536 ^ (4 * (m + 1)) ≤ 65536 ^ (ys.length - 1) := Nat.pow_le_pow_right (by omega) (by omega)
    omega
  · exact h0

set_option maxHeartbeats 2000000 in
theorem natDivMod_any (a b : Option Addr) (n m c d : Nat) (xs ys : List Nat) (w : World) (h : IRd w .u16 a n c xs) (k : IRd w .u16 b m d ys) (hx : Dg 65536 xs) (hy : Dg 65536 ys) (hn : n ≤ 800000) (hm : m ≤ 800000) (hpos : 0 < V 65536 ys) :
    Calls Tryz.prog 67 #[.slice a n c, .slice b m d] w (DmPost w (V 65536 xs) (V 65536 ys)) := by
  by_cases hsm : (trimR xs).length ≤ 4 ∧ (trimR ys).length ≤ (trimR xs).length
  · exact natDivMod_small a b n m c d xs ys w h k hx hy hsm.1 hsm.2 hpos
  have ht := h.take (trimR xs).length (by rw [← h.len]; exact trimR_length_le xs)
  have kt := k.take (trimR ys).length (by rw [← k.len]; exact trimR_length_le ys)
  rw [← trimR_eq_take] at ht kt
  have hcx := Can_trimR hx
  have hcy := Can_trimR hy
  have hvx := V_trimR (B := 65536) xs
  have hvy := V_trimR (B := 65536) ys
  have hnl : (trimR xs).length ≤ n := by rw [← h.len]; exact trimR_length_le xs
  have hml : (trimR ys).length ≤ m := by rw [← k.len]; exact trimR_length_le ys
  have R1 := hid (trim16 a n c xs w h)
  have R2 := hid (trim16 b m d ys w k)
  have hcap := ht.cap
  have kcap := kt.cap
  have hmax := ht.max
  have kmax := kt.max
  rw [← hvy] at hpos ⊢
  rw [← hvx]
  generalize trimR xs = us at *
  generalize trimR ys = vs at *
  clear hvx hvy h k
  have hv0 : 0 < vs.length := by
    rcases Nat.eq_zero_or_pos vs.length with h0 | h0
    · rw [List.eq_nil_of_length_eq_zero h0] at hpos; simp at hpos
    · exact h0
  have e1 : (((vs.length : Int) == 0) = false) := beq_eq_false_iff_ne.2 (by omega)
  by_cases hlt : us.length < vs.length
  · have e2 : ((us.length : Int) < (vs.length : Int)) := by omega
    have hval := Nm.Can.lt_of_length (B := 65536) (by omega) hcx.1 hcy hlt
    have hq : V 65536 us / V 65536 vs = 0 := Nat.div_eq_of_lt hval
    have hr : V 65536 us % V 65536 vs = V 65536 us := Nat.mod_eq_of_lt hval
    have HU := hid (eq_dg (by omega) hcx)
    have HPOST : Hid (∀ p cc W, IRd W .u16 p us.length cc us → w.grownBy W none → DmPost w (V 65536 us) (V 65536 vs) (.returned (.tuple #[.slice none 0 0, .slice p us.length cc, .int .i64 0])) W) := hid (fun p cc W h1 h2 => by
      have hl : (dg 65536 (V 65536 us)).length = us.length := by rw [← HU.out]
      refine ⟨none, p, 0, cc, ?_, ?_, ?_, h2⟩
      · rw [hq, hr, hl]; rfl
      · rw [hq]; exact IRd.nil _ _
      · rw [hr, ← HU.out]; exact h1)
    clear hval hq hr
    go_enter Tryz.func67, Tryz.ntmps67
    go_wp2_with (first
      | (go_at_call 70; (with_reducible refine (R1.out).mono ?_); rintro e w' ⟨rfl, rfl⟩)
      | (go_at_call 70; (with_reducible refine (R2.out).mono ?_); rintro e w' ⟨rfl, rfl⟩)
      | (go_at_call 96; refine (clone_any _ _ _ us _ ht (by omega)).mono ?_; rintro e w2 ⟨rfl, hr2, hg2⟩))
    go_ret3
    exact HPOST.out _ _ _ (hr2.rd0 (by omega)) hg2
  · have e2 : ¬ ((us.length : Int) < (vs.length : Int)) := by omega
    have e3 : ¬ ((us.length : Int) ≤ 4) := by omega
    by_cases h4 : vs.length ≤ 4
    · have e4 : ((vs.length : Int) ≤ 4) := by omega
      have hyb : V 65536 vs < W64 := by rw [W64_eq]; exact V_word hcy.1 4 h4
      have HP := hid (pack_any a us.length c us w ht hcx.1 (by omega))
      go_enter Tryz.func67, Tryz.ntmps67
      go_wp2_with (first
        | (go_at_call 70; (with_reducible refine (R1.out).mono ?_); rintro e w' ⟨rfl, rfl⟩)
        | (go_at_call 70; (with_reducible refine (R2.out).mono ?_); rintro e w' ⟨rfl, rfl⟩))
      refine HP.out.mono ?_
      rintro e w1 ⟨L, zs, rfl, hr1, HZ, hg1⟩
      have HW := hid (word_any b vs.length d vs w1 (kt.keep hg1) hcy.1 h4)
      have hLz : zs.length = L := HZ.out.2.1
      have hLb : L ≤ 200001 := by have := HZ.out.1; omega
      have HD := hid (divW_any w.heap.size L L zs (V 65536 vs) w1 hr1 (by omega) (Nat.le_refl _) (by omega) (by omega) HZ.out.2.2.2 hpos hyb)
      have HLz := hid hLz
      clear hLz
      generalize hyv : V 65536 vs = Y at *
      have HY := hid hyv
      clear hyv
      go_wp2_with (first
        | (go_at_call 72; (with_reducible refine (HW.out).mono ?_); rintro e w' ⟨rfl, rfl⟩)
        | (go_at_call 74; (with_reducible refine (HD.out).mono ?_); rintro e w2 ⟨cu, rfl, hr2, hg2, HC⟩))
      have hcl : cu.length = L := by rw [HC.out.1, HLz.out]
      have hrd := hr2.rd0 (by omega)
      rw [hcl] at hrd
      have hq0 : V W64 cu = V 65536 us / Y := by
        have h1 := HC.out.2.2.1
        rw [List.take_of_length_le (by omega), List.take_of_length_le (by rw [HLz.out]; exact Nat.le_refl _), HZ.out.2.2.1] at h1
        exact h1
      have hr0 : V W64 (List.take L zs) = V 65536 us := by rw [List.take_of_length_le (by rw [HLz.out]; exact Nat.le_refl _), HZ.out.2.2.1]
      have hrb : V 65536 us % Y < W64 := Nat.lt_trans (Nat.mod_lt _ hpos) hyb
      have HU := hid (unpack_any _ L L cu _ hrd HC.out.2.1 (by omega))
      rw [hq0] at HU
      rw [hr0]
      have hgw : w.grownBy w2 none := grown_new hg1 hg2 (fun g' e' => by cases e'; exact Nat.le_refl _)
      clear hcl hrd hq0 hr0 hg1 hg2 hr1 hr2 HD HW HP
      generalize hqq : V 65536 us / Y = QQ at *
      generalize hrr : V 65536 us % Y = RR at *
      have HQQ := hid hqq
      have HRR := hid hrr
      clear hqq hrr
      have HPOST : Hid (∀ p1 c1 p2 c2 W, IRd W .u16 p1 (dg 65536 QQ).length c1 (dg 65536 QQ) → IRd W .u16 p2 (dg 65536 RR).length c2 (dg 65536 RR) → w.grownBy W none → DmPost w (V 65536 us) Y (.returned (.tuple #[.slice p1 (dg 65536 QQ).length c1, .slice p2 (dg 65536 RR).length c2, .int .i64 0])) W) := hid (fun p1 c1 p2 c2 W g1 g2 g3 => by
        refine ⟨p1, p2, c1, c2, ?_, ?_, ?_, g3⟩
        · rw [HQQ.out, HRR.out]
        · rw [HQQ.out]; exact g1
        · rw [HRR.out]; exact g2)
      refine HU.out.mono ?_
      rintro e w3 ⟨p1, c1, rfl, hr3, hg3⟩
      have HZI : Hid (((V 65536 us : Nat) : Int) % (Y : Int) = (RR : Int)) := hid (by rw [← HRR.out]; simp)
      go_wp2_with fail
      first
        | with_reducible refine (of_at _ RR HZI.out hrb _).mono ?_
        | with_reducible refine (of_at _ RR rfl hrb _).mono ?_
      rintro e w4 ⟨p2, c2, rfl, hr4, hg4⟩
      go_wp2_with fail
      go_ret3
      exact HPOST.out _ _ _ _ _ (hr3.keep hg4) hr4 (grown_trans hgw (grown_trans hg3 hg4))
    · have e4 : ¬ ((vs.length : Int) ≤ 4) := by omega
      have HP := hid (pack_any a us.length c us w ht hcx.1 (by omega))
      go_enter Tryz.func67, Tryz.ntmps67
      go_wp2_with (first
        | (go_at_call 70; (with_reducible refine (R1.out).mono ?_); rintro e w' ⟨rfl, rfl⟩)
        | (go_at_call 70; (with_reducible refine (R2.out).mono ?_); rintro e w' ⟨rfl, rfl⟩))
      refine HP.out.mono ?_
      rintro e w1 ⟨L, zs, rfl, hr1, HZ, hg1⟩
      go_wp2_with fail
      refine (pack_any b vs.length d vs w1 (kt.keep hg1) hcy.1 (by omega)).mono ?_
      rintro e w2 ⟨M', ws, rfl, hr2, HWS, hg2⟩
      obtain ⟨M, hM⟩ : ∃ M, M' = M + 2 := ⟨M' - 2, by have := HWS.out.1; omega⟩
      subst hM
      have hlz := HZ.out.2.1
      have hlw := HWS.out.2.1
      have hrd1 := (hr1.kept hg2 (by simp)).rd0 (by have := HZ.out.1; omega)
      have hrd2 := hr2.rd0 (by have := HWS.out.1; omega)
      rw [hlz] at hrd1
      rw [hlw] at hrd2
      have HDV := hid (divide_any _ _ L M L (M + 2) zs ws w2 hrd1 hrd2 HZ.out.2.2.2 HWS.out.2.2.2 (by have := HZ.out.1; have := HWS.out.1; omega) (by have := HZ.out.1; omega) (by have := HWS.out.1; omega)
        (len_words hcy (by omega) ws HWS.out.2.2.2 M HWS.out.1 hlw HWS.out.2.2.1))
      have hgw := grown_trans hg1 hg2
      have hVz := HZ.out.2.2.1
      have hVw := HWS.out.2.2.1
      rw [hVz, hVw] at HDV
      clear hlz hlw hrd1 hrd2 hr1 hr2 hg1 hg2 hVz hVw HP
      go_wp2_with fail
      refine HDV.out.mono ?_
      rintro e w3 ⟨a1, a2, n1, n2, qs, rs, rfl, hq3, hr3, hn1, hn2, HF, hg3⟩
      generalize hqq : V 65536 us / V 65536 vs = QQ at *
      generalize hrr : V 65536 us % V 65536 vs = RR at *
      have HQQ := hid hqq
      have HRR := hid hrr
      clear hqq hrr
      have HPOST : Hid (∀ p1 c1 p2 c2 W, IRd W .u16 p1 (dg 65536 QQ).length c1 (dg 65536 QQ) → IRd W .u16 p2 (dg 65536 RR).length c2 (dg 65536 RR) → w.grownBy W none → DmPost w (V 65536 us) (V 65536 vs) (.returned (.tuple #[.slice p1 (dg 65536 QQ).length c1, .slice p2 (dg 65536 RR).length c2, .int .i64 0])) W) := hid (fun p1 c1 p2 c2 W g1 g2 g3 => by
        refine ⟨p1, p2, c1, c2, ?_, ?_, ?_, g3⟩
        · rw [HQQ.out, HRR.out]
        · rw [HQQ.out]; exact g1
        · rw [HRR.out]; exact g2)
      have hU1 := unpack_any _ n1 n1 qs _ hq3 HF.out.1 (by omega)
      rw [HF.out.2.2.1] at hU1
      have HU1 := hid hU1
      have hU2 := fun w4 (hg4 : w3.grownBy w4 none) => unpack_any _ n2 n2 rs _ (hr3.keep hg4) HF.out.2.1 (by omega)
      rw [HF.out.2.2.2] at hU2
      have HU2 := hid hU2
      clear hU1 hU2 HDV
      go_wp2_with fail
      refine HU1.out.mono ?_
      rintro e w4 ⟨p1, c1, rfl, hr4, hg4⟩
      go_wp2_with fail
      refine (HU2.out _ hg4).mono ?_
      rintro e w5 ⟨p2, c2, rfl, hr5, hg5⟩
      go_wp2_with fail
      go_ret3
      exact HPOST.out _ _ _ _ _ (hr4.keep hg5) hr5 (grown_trans hgw (grown_trans hg3 (grown_trans hg4 hg5)))

section
variable {w w' : World} {p q : Option Addr} {n c m d N M : Nat}
theorem natDivMod_n (hA : IsN w p n c N) (hB : IsN w q m d M) (hn : n ≤ 800000) (hm : m ≤ 800000) (hpos : 0 < M) :
    Calls Tryz.prog 67 #[.slice p n c, .slice q m d] w fun e w' => ∃ (p1 : Option Addr) (n1 c1 : Nat) (p2 : Option Addr) (n2 c2 : Nat), e = .returned (.tuple #[.slice p1 n1 c1, .slice p2 n2 c2, .int .i64 0]) ∧
      IsC w' p1 n1 c1 (N / M) ∧ IsC w' p2 n2 c2 (N % M) ∧ n1 ≤ n ∧ n2 ≤ n ∧ n2 ≤ m ∧ w.grownBy w' none := by
  have lA := hA.lt
  have lB := hB.lt
  obtain ⟨L, h1, h2, rfl⟩ := hA
  obtain ⟨K, k1, k2, rfl⟩ := hB
  refine (natDivMod_any p q n m c d L K w h1 k1 h2 k2 hn hm hpos).mono fun e w' ⟨a1, a2, c1, c2, he, g1, g2, hg⟩ => ⟨a1, _, c1, a2, _, c2, he, g1, g2, ?_, ?_, ?_, hg⟩
  · exact dg_length_le (by omega) (Nat.lt_of_le_of_lt (Nat.div_le_self _ _) lA)
  · exact dg_length_le (by omega) (Nat.lt_of_le_of_lt (Nat.mod_le _ _) lA)
  · exact dg_length_le (by omega) (Nat.lt_trans (Nat.mod_lt _ hpos) lB)

theorem natDivMod_e (hA : IsN w p n c N) (hB : IsN w q m d 0) :
    Calls Tryz.prog 67 #[.slice p n c, .slice q m d] w fun e w' => e = .returned (.tuple #[.slice none 0 0, .slice none 0 0, .int .i64 3]) ∧ w.grownBy w' none := by
  obtain ⟨L, h1, h2, _⟩ := hA
  obtain ⟨K, k1, k2, k3⟩ := hB
  exact (natDivMod_zero p q n m c d L K w h1 k1 k2 k3).mono fun e w' ⟨he, hw⟩ => ⟨he, hw ▸ grown_refl _ _⟩
end
end Go.Proofs.YtkggoniecmlglaaGreatDoor

set_option linter.unusedVariables false
set_option linter.unusedSimpArgs false
namespace Go.Proofs.YtkggoniecmlglaaGreatDoor
open Go.RowKit Nm

theorem refOf_c (x : Nat) (hx : x < W64) (w : World) : Calls Tryz.prog 27 #[.int .u64 x] w fun e w' => ∃ p n c, e = .returned (.slice p n c) ∧ IsC w' p n c x ∧ n ≤ 4 ∧ w.grownBy w' none :=
  (refOf_any x hx w).mono fun e w' ⟨p, c, he, hr, hg⟩ => ⟨p, _, c, he, hr, dg_length_le (by omega) (by rw [← W64_eq]; exact hx), hg⟩

set_option maxHeartbeats 1000000 in
theorem refDigit_n {w : World} {p q : Option Addr} {n c m d R B : Nat} (hR : IsN w p n c R) (hB : IsN w q m d B) (hm : m ≤ 300000) (hpos : 0 < B) (hlt : R < 65536 * B) :
    Calls Tryz.prog 91 #[.slice p n c, .slice q m d] w fun e w' => e = .returned (.int .u64 (R / B : Nat)) ∧ w.grownBy w' none := by
  have hq : R / B ≤ 65535 := by
    have := Nat.div_lt_of_lt_mul (by rw [Nat.mul_comm] at hlt; exact hlt)
    omega
  obtain ⟨Q, hQ⟩ : ∃ Q, Q = R / B := ⟨_, rfl⟩
  have hcmp : ∀ k, k ≤ Q ↔ B * k ≤ R := fun k => by rw [hQ, Nat.le_div_iff_mul_le hpos, Nat.mul_comm]
  have HC := hid hcmp
  rw [← hQ] at hq ⊢
  clear hcmp hQ hlt
  go_enter Tryz.func91, Tryz.ntmps91
  go_wp2_with fail
  go_loopw [5, 6] (fun s5 s6 wr => ∃ lo hi : Nat, s5 = .int .u64 lo ∧ s6 = .int .u64 hi ∧ lo ≤ Q ∧ Q ≤ hi ∧ hi ≤ 65535 ∧ w.grownBy wr none) (fun s5 s6 _ => (intOf s6 - intOf s5).toNat)
  case atStart => exact ⟨0, 65535, rfl, rfl, by omega, hq, by omega, grown_refl _ _⟩
  case round =>
    obtain ⟨lo, hi, rfl, rfl, h1, h2, h3, hgr⟩ := hrel
    by_cases hlt : lo < hi
    · have hlt' : (lo : Int) < (hi : Int) := by omega
      obtain ⟨mid, hmid⟩ : ∃ mid, mid = (lo + hi + 1) / 2 := ⟨_, rfl⟩
      have e1 : ((lo : Int) + (hi : Int) + 1) / 2 = (mid : Int) := by omega
      have hm1 : lo < mid := by omega
      have hm2 : mid ≤ hi := by omega
      obtain ⟨mid1, hmid1⟩ : ∃ mid1, mid1 = mid - 1 := ⟨_, rfl⟩
      have e2 : (mid : Int) - 1 = (mid1 : Int) := by omega
      have hB' := hB.keep hgr
      have hR' := hR.keep hgr
      have HMM := hid (And.intro hmid hmid1)
      clear hmid hmid1
      go_wp2_with fail
      refine (refOf_c mid (by unfold W64; omega) _).mono ?_
      rintro e w1 ⟨p1, n1, c1, rfl, hO, hn1, hg1⟩
      go_wp2_with fail
      refine (refMul_n (hB'.keep hg1) hO.isN (by omega) (by omega)).mono ?_
      rintro e w2 ⟨p2, n2, c2, rfl, hM, hn2, hg2⟩
      go_wp2_with fail
      refine (refCmp_n hM.isN ((hR'.keep hg1).keep hg2)).mono ?_
      have hgw := grown_trans hgr (grown_trans hg1 hg2)
      by_cases hle : B * mid ≤ R
      · have hc : cmpI ((B * mid : Nat) : Int) (R : Int) = -1 ∨ cmpI ((B * mid : Nat) : Int) (R : Int) = 0 := by
          rcases Nat.lt_or_ge (B * mid) R with h | h
          · exact .inl (cmpI_lt h)
          · right; rw [show B * mid = R by omega, cmpI_eq]
        have hmq := (HC.out mid).2 hle
        rcases hc with hc | hc <;> rw [hc] <;> clear hc hle
        all_goals
          rintro e w3 ⟨rfl, rfl⟩
          go_wp2_with fail
          exact ⟨⟨mid, hi, rfl, rfl, hmq, h2, h3, hgw⟩, by simp [intOf]; omega⟩
      · have hc : cmpI ((B * mid : Nat) : Int) (R : Int) = 1 := cmpI_gt (by omega)
        have hmq : ¬ mid ≤ Q := fun h => hle ((HC.out mid).1 h)
        rw [hc]
        clear hc hle
        rintro e w3 ⟨rfl, rfl⟩
        go_wp2_with fail
        exact ⟨⟨lo, mid1, rfl, rfl, h1, by have := HMM.out.2; omega, by omega, hgw⟩, by simp [intOf]; omega⟩
    · obtain rfl : lo = Q := by omega
      go_wp2_with fail
      go_ret
      exact ⟨rfl, hgr⟩

/-- a new slice of one number, of the call's own -/
theorem one_own (w : World) (base : Nat) (e : TypeId) (k : IntKind) (v : Int) (y : Nat) (hv : v = (y : Int)) (hb : base ≤ w.heap.size) : IOwn (w.alloc (.cells #[.int k v] e)) base e k (some ⟨w.heap.size, 0, none⟩) 1 1 [y] := by
  subst hv
  exact IOwn.made w base e k [y] hb (by simp)

theorem cons_isN {w : World} {p : Option Addr} {n c x : Nat} {xs : List Nat} (h : IRd w .u16 p (1 + n) c ([x] ++ xs)) (hx : x < 65536) (hd : Dg 65536 xs) : IsN w p (1 + n) c (x + 65536 * V 65536 xs) :=
  ⟨_, h, Dg.cons hx hd, rfl⟩

theorem refDivMod_e {w : World} {p q : Option Addr} {n c m d N : Nat} (hA : IsN w p n c N) (hB : IsN w q m d 0) (hn : n ≤ 300000) (hm : m ≤ 300000) :
    Calls Tryz.prog 60 #[.slice p n c, .slice q m d] w fun e w' => e = .returned (.tuple #[.slice none 0 0, .slice none 0 0, .int .i64 3]) ∧ w.grownBy w' none := by
  go_enter Tryz.func60, Tryz.ntmps60
  go_wp2_with fail
  refine (refNorm_n hA (by omega)).mono ?_
  rintro e w1 ⟨p1, n1, c1, rfl, hA1, hn1, hg1⟩
  go_wp2_with fail
  refine (refNorm_n (hB.keep hg1) (by omega)).mono ?_
  rintro e w2 ⟨p2, n2, c2, rfl, hB2, hn2, hg2⟩
  have hz : n2 = 0 := by rw [← hB2.len]; rfl
  subst hz
  go_wp2_with fail
  go_ret3
  exact ⟨rfl, grown_trans hg1 hg2⟩

set_option maxHeartbeats 2000000 in
theorem refDivMod_n {w : World} {p q : Option Addr} {n c m d N M : Nat} (hA : IsN w p n c N) (hB : IsN w q m d M) (hn : n ≤ 300000) (hm : m ≤ 300000) (hpos : 0 < M) :
    Calls Tryz.prog 60 #[.slice p n c, .slice q m d] w fun e w' => ∃ (p1 : Option Addr) (n1 c1 : Nat) (p2 : Option Addr) (n2 c2 : Nat), e = .returned (.tuple #[.slice p1 n1 c1, .slice p2 n2 c2, .int .i64 0]) ∧
      IsC w' p1 n1 c1 (N / M) ∧ IsC w' p2 n2 c2 (N % M) ∧ n1 ≤ n ∧ n2 ≤ n ∧ w.grownBy w' none := by
  have HNL := hid hA.lt
  have HML := hid hB.lt
  go_enter Tryz.func60, Tryz.ntmps60
  go_wp2_with fail
  refine (refNorm_n hA (by omega)).mono ?_
  rintro e w1 ⟨p1, n1, c1, rfl, hA1, hn1, hg1⟩
  go_wp2_with fail
  refine (refNorm_n (hB.keep hg1) (by omega)).mono ?_
  rintro e w2 ⟨p2, n2, c2, rfl, hB2, hn2, hg2⟩
  replace hA1 := hA1.keep hg2
  have hgw := grown_trans hg1 hg2
  have hn20 : n2 ≠ 0 := by
    intro h0
    have := hB2.isN.lt
    rw [h0] at this; simp at this; omega
  have e0 : (((n2 : Int) == 0) = false) := beq_eq_false_iff_ne.2 (by omega)
  clear hg1 hg2 hA hB
  by_cases h4 : n1 ≤ 4 ∧ n2 ≤ 4
  · obtain ⟨h41, h42⟩ := h4
    have h41' : (n1 : Int) ≤ 4 := by omega
    have h42' : (n2 : Int) ≤ 4 := by omega
    have hNb : N < W64 := by rw [W64_eq]; exact Nat.lt_of_lt_of_le hA1.isN.lt (Nat.pow_le_pow_right (by omega) h41)
    have hMb : M < W64 := by rw [W64_eq]; exact Nat.lt_of_lt_of_le hB2.isN.lt (Nat.pow_le_pow_right (by omega) h42)
    have HS1 := fun W (h : IsC W p1 n1 c1 N) => refShort_any p1 n1 c1 _ W h (Can_dg (by omega) N).1 h41
    have HS2 := fun W (h : IsC W p2 n2 c2 M) => refShort_any p2 n2 c2 _ W h (Can_dg (by omega) M).1 h42
    simp only [V_dg (show 1 < 65536 by omega)] at HS1 HS2
    have HS1' := hid HS1
    have HS2' := hid HS2
    have hqb : N / M < W64 := Nat.lt_of_le_of_lt (Nat.div_le_self _ _) hNb
    have hrb : N % M < W64 := Nat.lt_of_le_of_lt (Nat.mod_le _ _) hNb
    obtain ⟨Q, hQ⟩ : ∃ Q, Q = N / M := ⟨_, rfl⟩
    obtain ⟨R, hR⟩ : ∃ R, R = N % M := ⟨_, rfl⟩
    have eq1 : IntKind.u64.wrap ((N : Int) / (M : Int)) = (Q : Int) := by rw [hQ, ← Int.natCast_ediv]; exact wrap_in _ hqb
    have eq2 : (N : Int) / (M : Int) = (Q : Int) := by rw [hQ]; simp
    have eq3 : (N : Int) % (M : Int) = (R : Int) := by rw [hR]; simp
    have eq4 : (N : Int).tmod (M : Int) = (R : Int) := by rw [hR]; rfl
    rw [← hQ] at hqb
    rw [← hR] at hrb
    have HQR := hid (And.intro hQ hR)
    have eq5 : IntKind.u64.wrap (Q : Int) = (Q : Int) := wrap_in _ hqb
    have eq6 : IntKind.u64.wrap (R : Int) = (R : Int) := wrap_in _ hrb
    have hQN : Q ≤ N := by rw [hQ]; exact Nat.div_le_self _ _
    have hRN : R ≤ N := by rw [hR]; exact Nat.mod_le _ _
    have HQN := hid (And.intro hQN hRN)
    have hM1 : (1 : Int) ≤ (M : Int) := by omega
    have hN0 : (0 : Int) ≤ (N : Int) := by omega
    clear hQ hR HS1 HS2 hQN hRN
    go_wp2_with fail
    refine (HS1'.out _ hA1).mono ?_
    rintro e w' ⟨rfl, rfl⟩
    go_wp2_with fail
    refine (HS2'.out _ hB2).mono ?_
    rintro e w' ⟨rfl, rfl⟩
    go_wp2_with fail
    refine (refOf_c Q hqb _).mono ?_
    rintro e w3 ⟨p3, n3, c3, rfl, hq3, hn3, hg3⟩
    replace hA1 := hA1.keep hg3
    replace hB2 := hB2.keep hg3
    go_wp2_with fail
    refine (HS1'.out _ hA1).mono ?_
    rintro e w' ⟨rfl, rfl⟩
    go_wp2_with fail
    refine (HS2'.out _ hB2).mono ?_
    rintro e w' ⟨rfl, rfl⟩
    go_wp2_with fail
    refine (refOf_c R hrb _).mono ?_
    rintro e w4 ⟨p4, n4, c4, rfl, hq4, hn4, hg4⟩
    go_wp2_with fail
    go_ret3
    exact ⟨p3, n3, c3, p4, n4, c4, rfl, (hq3.keep hg4).congr HQR.out.1, hq4.congr HQR.out.2, hq3.len_le (Nat.lt_of_le_of_lt HQN.out.1 HNL.out), hq4.len_le (Nat.lt_of_le_of_lt HQN.out.2 HNL.out), grown_trans hgw (grown_trans hg3 hg4)⟩
  · have hguard : (¬ ((n1 : Int) ≤ 4)) ∨ ((n1 : Int) ≤ 4 ∧ ¬ ((n2 : Int) ≤ 4)) := by omega
    clear h4
    have hAc := hA1
    obtain ⟨us, hus⟩ : ∃ us, us = dg 65536 N := ⟨_, rfl⟩
    have hcx : Nm.Can 65536 us := by rw [hus]; exact Can_dg (by omega) N
    have hVu : V 65536 us = N := by rw [hus]; exact V_dg (by omega) N
    have ht : IRd w2 .u16 p1 n1 c1 us := by rw [hus]; exact hA1
    have hul : us.length = n1 := ht.len
    have hcap := ht.cap
    have hmax := ht.max
    have HVU := hid hVu
    have HUL := hid hul
    clear hus hAc hVu hul
    have Hstart : Hid (V 65536 (us.drop n1) = 0) := hid (by rw [List.drop_of_length_le (by rw [HUL.out]; exact Nat.le_refl _)]; rfl)
    rcases hguard with hg | ⟨hg, hg'⟩
    all_goals
      go_wp2_with fail
      go_loopw [7, 8, 9] (fun s7 s8 s9 wr => ∃ (k : Nat) (pq : Option Addr) (nq cq : Nat) (qs : List Nat) (pr : Option Addr) (nr cr : Nat), k ≤ n1 ∧ s9 = .int .i64 ((k : Int) - 1) ∧ s7 = .slice pq nq cq ∧ s8 = .slice pr nr cr ∧ nq + k = n1 ∧ IRd wr .u16 pq nq cq qs ∧
          IsC wr pr nr cr (V 65536 (us.drop k) % M) ∧ w2.grownBy wr none ∧ Hid (Dg 65536 qs ∧ V 65536 qs = V 65536 (us.drop k) / M)) (fun _ _ s9 _ => (intOf s9 + 1).toNat)
      case atStart => exact ⟨n1, none, 0, 0, [], none, 0, 0, Nat.le_refl _, rfl, rfl, rfl, by omega, IRd.nil _ _, (IsC.nil _).congr (by rw [Hstart.out]; simp), grown_refl _ _, hid ⟨Dg.nil, by rw [Hstart.out]; simp⟩⟩
      case round =>
        obtain ⟨k, pq, nq, cq, qs, pr, nr, cr, hk, rfl, rfl, rfl, hnk, hq, hr, hgr, HC⟩ := hrel
        by_cases h0 : 0 < k
        · obtain ⟨i, rfl⟩ : ∃ i, k = i + 1 := ⟨k - 1, by omega⟩
          have hil : i < us.length := by rw [HUL.out]; omega
          obtain ⟨b, o, rfl, hc1⟩ := ht.cel i hil
          have hc2 := hgr.cell hc1 (by simp)
          obtain ⟨x, hx⟩ : ∃ x, x = us[i] := ⟨_, rfl⟩
          rw [← hx] at hc2
          have hxb : x < 65536 := by rw [hx]; exact hcx.1.get i hil
          have hdk := V_drop_succ (B := 65536) us i hil
          rw [← hx] at hdk
          have hdd := div_down (W := 65536) (x := M) (y := x) (v := V 65536 (us.drop (i + 1))) (Q := V 65536 (us.drop (i + 1)) / M) hpos rfl
          have hrM : V 65536 (us.drop (i + 1)) % M < M := Nat.mod_lt _ hpos
          obtain ⟨rr, hrr⟩ : ∃ rr, rr = V 65536 (us.drop (i + 1)) % M := ⟨_, rfl⟩
          rw [← hrr] at hr hdd hrM
          have hnr : nr ≤ m := hr.len_le (Nat.lt_trans hrM HML.out)
          have hR' : x + 65536 * rr < 65536 * M := by
            have := Nat.mul_le_mul_left 65536 (show rr + 1 ≤ M from hrM)
            omega
          have HDD := hid (And.intro hdd hdk)
          have HRR := hid hrr
          have HR' := hid hR'
          have hBr := hB2.keep hgr
          have hi0 : (0 : Int) ≤ (i : Int) := by omega
          have hi1 : (i : Int) < (n1 : Int) := by omega
          have hrd : IRd wr .u16 pr nr cr (dg 65536 rr) := hr
          have hnrb : nr ≤ 300000 := by omega
          have hnqb : nq ≤ 300000 := by omega
          clear hc1 hx hdk hdd hrM hrr hR'
          go_wp2_with (with_reducible refine wl_append _ rfl (.tmp 49) (.tmp 50) 23 rfl 44 .u16 2 Tryz.underlying23 info16 wr.heap.size _ _ _ [x] rfl (one_own wr wr.heap.size _ _ _ x rfl (Nat.le_refl _)) _ nr cr _ rfl (IRd.keep hrd (World.grownBy_alloc _ _ none)) (by omega) (by omega) wr (World.grownBy_alloc _ _ none) (Nat.le_refl _) (by simp) ?_; intro p3 c3 w3 ho3 hg3)
          have hN3 : IsN w3 p3 (1 + nr) c3 (x + 65536 * rr) := by
            have := cons_isN ho3.rd hxb (Can_dg (by omega) rr).1
            rwa [V_dg (by omega)] at this
          refine (refNorm_n hN3 (by omega)).mono ?_
          rintro e w4 ⟨p4, n4, c4, rfl, hR4, hn4, hg4⟩
          have hg34 := grown_trans hg3 hg4
          replace hBr := hBr.keep hg34
          replace hq := hq.keep hg34
          replace hgr := grown_trans hgr hg34
          clear hN3 ho3 hg3 hg4 hg34 hr hrd hc2
          obtain ⟨R4, hR4'⟩ : ∃ R4, R4 = x + 65536 * rr := ⟨_, rfl⟩
          obtain ⟨dd, hdd⟩ : ∃ dd, dd = R4 / M := ⟨_, rfl⟩
          have hRlt := HR'.out
          rw [← hR4'] at hR4 hRlt
          have HDG := hid (refDigit_n hR4.isN hBr.isN (by omega) hpos hRlt)
          rw [← hdd] at HDG
          have hddb : dd < 65536 := by rw [hdd]; exact Nat.div_lt_of_lt_mul (by rw [Nat.mul_comm]; exact hRlt)
          have eD : IntKind.u16.wrap (dd : Int) = (dd : Int) := by rw [IntKind.wrap_u16]; omega
          have hsub : M * dd ≤ R4 := by rw [hdd]; exact Nat.mul_div_le _ _
          have hmod : R4 - M * dd = R4 % M := by
            have := Nat.div_add_mod R4 M
            rw [← hdd] at this; omega
          have HX := hid (And.intro hR4' (And.intro hdd (And.intro hsub hmod)))
          clear hR4' hdd hsub hmod hRlt
          go_wp2_with fail
          refine HDG.out.mono ?_
          rintro e w5 ⟨rfl, hg5⟩
          replace hBr := hBr.keep hg5
          replace hq := hq.keep hg5
          replace hR4 := hR4.keep hg5
          replace hgr := grown_trans hgr hg5
          clear HDG hg5
          go_wp2_with (with_reducible refine wl_append _ rfl (.tmp 58) (.tmp 59) 23 rfl 44 .u16 2 Tryz.underlying23 info16 w5.heap.size _ _ _ [dd] rfl (one_own w5 w5.heap.size _ _ _ dd (by first | rfl | exact eD) (Nat.le_refl _)) _ nq cq _ rfl (IRd.keep hq (World.grownBy_alloc _ _ none)) (by omega) (by omega) w5 (World.grownBy_alloc _ _ none) (Nat.le_refl _) (by simp) ?_; intro p6 c6 w6 ho6 hg6)
          replace hBr := hBr.keep hg6
          replace hR4 := hR4.keep hg6
          replace hgr := grown_trans hgr hg6
          have hq6 := ho6.rd
          clear ho6 hg6 hq
          refine (refOf_c dd (by unfold W64; omega) _).mono ?_
          rintro e w7 ⟨p7, n7, c7, rfl, hO, hn7, hg7⟩
          go_wp2_with fail
          refine (refMul_n (hBr.keep hg7).isN hO.isN (by omega) (by omega)).mono ?_
          rintro e w8 ⟨p8, n8, c8, rfl, hM8, hn8, hg8⟩
          have hg78 := grown_trans hg7 hg8
          replace hR4 := hR4.keep hg78
          replace hq6 := hq6.keep hg78
          replace hgr := grown_trans hgr hg78
          go_wp2_with fail
          refine (refSub_n hR4.isN hM8.isN (by omega) HX.out.2.2.1).mono ?_
          rintro e w9 ⟨p9, n9, c9, rfl, hS9, hn9, hg9⟩
          replace hq6 := hq6.keep hg9
          replace hgr := grown_trans hgr hg9
          go_wp2_with fail
          have hx1 := HX.out
          have hx2 := HDD.out
          have e5 : rr * 65536 + x = R4 := by rw [hx1.1]; omega
          rw [e5] at hx2
          refine ⟨⟨i, p6, 1 + nq, c6, [dd] ++ qs, p9, n9, c9, by omega, by congr 1, rfl, rfl, by omega, hq6, hS9.congr ?_, hgr, hid ⟨Dg.cons hddb HC.out.1, ?_⟩⟩, by simp [intOf]⟩
          · rw [hx1.2.2.2, hx2.1.2, hx2.2]
          · rw [List.singleton_append, V_cons, HC.out.2, hx1.2.1, hx2.1.1, hx2.2]
        · obtain rfl : k = 0 := by omega
          have hr' := hr
          rw [List.drop_zero, HVU.out] at hr'
          have hqv := HC.out.2
          rw [List.drop_zero, HVU.out] at hqv
          have hqN : IsN wr pq nq cq (N / M) := ⟨qs, hq, HC.out.1, hqv⟩
          have hrn : nr ≤ n := hr'.len_le (Nat.lt_of_le_of_lt (Nat.mod_le _ _) HNL.out)
          clear hqv hr
          go_wp2_with fail
          refine (refNorm_n hqN (by omega)).mono ?_
          rintro e w4 ⟨p4, n4, c4, rfl, hq4, hn4, hg4⟩
          go_wp2_with fail
          go_ret3
          exact ⟨p4, n4, c4, pr, nr, cr, rfl, hq4, hr'.keep hg4, by omega, hrn, grown_trans hgw (grown_trans hgr hg4)⟩
end Go.Proofs.YtkggoniecmlglaaGreatDoor
