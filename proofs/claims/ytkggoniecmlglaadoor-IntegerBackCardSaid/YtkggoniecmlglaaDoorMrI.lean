/-
  RefAdd RefSub RefMul DivN RefDiv IntA IntN IntM IntR IntC IntOf IntD IntOpen Small2 Alive2, in one text.
-/
import Derived.Test.YtkggoniecmlglaaDoorVal
import Derived.Test.YtkggoniecmlglaaDoorDivS
import Derived.Test.YtkggoniecmlglaaDoorDivide
import Derived.Test.YtkggoniecmlglaaDoorIntSum
import Derived.Deep.RegionWith
import Derived.Deep.RegionHeld3
import Derived.Test.YtkggoniecmlglaaDoorOpen
import Derived.Test.YtkggoniecmlglaaDoorAliveA

set_option linter.unusedVariables false
set_option linter.unusedSimpArgs false
namespace Go.Proofs.YtkggoniecmlglaaDoor
open Go.RowKit Nm

/-- the value of the first k limbs, counted behind the end as zeros -/
def vk (xs : List Nat) (k : Nat) : Nat := V 65536 (xs.take k)
theorem vk_succ (xs : List Nat) (k : Nat) : vk xs (k + 1) = vk xs k + 65536 ^ k * lb xs k := by
  unfold vk lb
  by_cases h : k < xs.length
  · rw [V_take_succ xs k h, List.getElem?_eq_getElem h]; rfl
  · rw [List.take_of_length_le (by omega), List.take_of_length_le (by omega), List.getElem?_eq_none (by omega)]; simp
theorem vk_all (xs : List Nat) (k : Nat) (h : xs.length ≤ k) : vk xs k = V 65536 xs := by unfold vk; rw [List.take_of_length_le h]
theorem V_snoc (zs : List Nat) (y : Nat) : V 65536 (zs ++ [y]) = V 65536 zs + 65536 ^ zs.length * y := by simp [V_append]

/-- what a reference's result is: the valid Nat of a number -/
theorem refNorm_n {w : World} {p : Option Addr} {n c N : Nat} (h : IsN w p n c N) (hn : n ≤ 4000000) :
    Calls Tryd.prog 48 #[.slice p n c] w fun e w' => ∃ p' n' c', e = .returned (.slice p' n' c') ∧ IsC w' p' n' c' N ∧ n' ≤ n ∧ w.grownBy w' none := by
  obtain ⟨L, h1, h2, rfl⟩ := h
  refine (refNorm_any p n c L w h1 hn).mono fun e w' ⟨p', c', h, hr, hg⟩ => ⟨p', _, c', h, ?_, ?_, hg⟩
  · unfold IsC; rw [← trimR_dg (by omega) h2]; exact hr
  · rw [← h1.len]; exact trimR_length_le L

set_option maxHeartbeats 2000000 in
theorem refAdd_n {p q : Option Addr} {n c m d N M : Nat} {w : World} (hA : IsN w p n c N) (hB : IsN w q m d M) (hn : n ≤ 900000) (hm : m ≤ 900000) :
    Calls Tryd.prog 39 #[.slice p n c, .slice q m d] w fun e w' => ∃ p' n' c', e = .returned (.slice p' n' c') ∧ IsC w' p' n' c' (N + M) ∧ n' ≤ n + m + 1 ∧ w.grownBy w' none := by
  obtain ⟨xs, h1, hx, rfl⟩ := hA
  obtain ⟨ys, k1, hy, rfl⟩ := hB
  have hmax := h1.max
  have hcap := h1.cap
  have kmax := k1.max
  have kcap := k1.cap
  have HLX := hid h1.len
  have HLY := hid k1.len
  obtain ⟨L, hL⟩ : ∃ L, L = max n m := ⟨_, rfl⟩
  have hL1 : n ≤ L := by omega
  have hL2 : m ≤ L := by omega
  have hL3 : L ≤ 900000 := by omega
  have hL4 : L ≤ n + m := by omega
  have HL := hid hL
  have htot : V 65536 xs + V 65536 ys < 65536 ^ (L + 1) := by
    have e1 := hx.lt
    have e2 := hy.lt
    rw [HLX.out] at e1
    rw [HLY.out] at e2
    have e3 : 65536 ^ n ≤ 65536 ^ L := Nat.pow_le_pow_right (by omega) (by omega)
    have e4 : 65536 ^ m ≤ 65536 ^ L := Nat.pow_le_pow_right (by omega) (by omega)
    rw [Nat.pow_succ]; omega
  have HT := hid htot
  have R1 := hid (fun W (h : IRd W .u16 p n c xs) i => refLimb_val p n c xs W h hx i)
  have R2 := hid (fun W (h : IRd W .u16 q m d ys) i => refLimb_val q m d ys W h hy i)
  clear hL htot
  go_enter Tryd.func39, Tryd.ntmps39
  go_wp2_with fail
  go_loopw [5, 6, 7] (fun s cy i wr => ∃ (k y : Nat) (p' : Option Addr) (c' : Nat) (zs : List Nat), k ≤ L + 1 ∧ i = .int .i64 k ∧ cy = .int .i64 y ∧ y ≤ 1 ∧ s = .slice p' k c' ∧ IOwn wr w.heap.size 35 .u16 p' k c' zs ∧ w.grownBy wr none ∧
      Hid (Dg 65536 zs ∧ V 65536 zs + 65536 ^ k * y = vk xs k + vk ys k)) (fun _ _ i _ => L + 1 - (intOf i).toNat)
  case atStart => exact ⟨0, 0, none, 0, [], by omega, rfl, rfl, by omega, rfl, IOwn.nil _ _ _ _, grown_refl _ _, hid ⟨Dg.nil, by simp [vk]⟩⟩
  case round =>
    obtain ⟨k, y, p', c', zs, hk, rfl, rfl, hy1, rfl, ho, hgr, HC⟩ := hrel
    by_cases hend : L ≤ k ∧ y = 0
    · obtain ⟨he1, rfl⟩ := hend
      have t1 : ¬ ((k : Int) < (n : Int)) := by omega
      have t2 : ¬ ((k : Int) < (m : Int)) := by omega
      have HN : Hid (IsN wr p' k c' (V 65536 xs + V 65536 ys)) := hid ⟨zs, ho.rd, HC.out.1, by
        have := HC.out.2
        rw [vk_all xs k (by rw [HLX.out]; omega), vk_all ys k (by rw [HLY.out]; omega)] at this
        simpa using this⟩
      go_wp2_with fail
      refine (refNorm_n HN.out (by omega)).mono ?_
      rintro e w' ⟨p2, n2, c2, rfl, hc, hn2, hg⟩
      go_wp2_with fail
      go_ret
      exact ⟨p2, n2, c2, rfl, hc, by omega, grown_trans hgr hg⟩
    · have hkL : k < L + 1 := by
        rcases Nat.lt_or_ge k (L + 1) with h | h
        · exact h
        · obtain rfl : k = L + 1 := by omega
          have hyp : y ≠ 0 := fun e => hend ⟨by omega, e⟩
          have := HC.out.2
          rw [vk_all xs _ (by rw [HLX.out]; omega), vk_all ys _ (by rw [HLY.out]; omega)] at this
          have := carry_place this HT.out hyp (by omega)
          omega
      have hx' := h1.keep hgr
      have hy' := k1.keep hgr
      have b1 := lb_lt hx k
      have b2 := lb_lt hy k
      have L1 := R1.out wr hx' k
      have L2 := R2.out wr hy' k
      have v1 := vk_succ xs k
      have v2 := vk_succ ys k
      generalize lb xs k = x at *
      generalize lb ys k = z at *
      have H1 := hid L1
      have H2 := hid L2
      have HV := hid (And.intro v1 v2)
      clear L1 L2 v1 v2
      have hcase : ((k : Int) < (n : Int)) ∨ (¬ ((k : Int) < (n : Int)) ∧ (k : Int) < (m : Int)) ∨ (¬ ((k : Int) < (n : Int)) ∧ ¬ ((k : Int) < (m : Int)) ∧ (0 : Int) < (y : Int)) := by
        have := HL.out
        have : L ≤ k → ¬ y = 0 := fun h e => hend ⟨h, e⟩
        omega
      clear hend
      have hmi : (x + z + y) % 65536 < 65536 := Nat.mod_lt _ (by omega)
      have hok : w.heap.size ≤ wr.heap.size := hgr.size
      have fin : ∀ zs', zs' = zs ++ [(x + z + y) % 65536] → Hid (Dg 65536 zs' ∧ V 65536 zs' + 65536 ^ (k + 1) * ((x + z + y) / 65536) = vk xs (k + 1) + vk ys (k + 1)) := by
        intro zs' e
        subst e
        refine hid ⟨HC.out.1.append (Dg.cons hmi Dg.nil), ?_⟩
        rw [V_snoc, HV.out.1, HV.out.2, ho.1, Nat.pow_succ, Nat.mul_assoc]
        have h2 := HC.out.2
        have h3 : 65536 ^ k * ((x + z + y) % 65536) + 65536 ^ k * (65536 * ((x + z + y) / 65536)) = 65536 ^ k * x + 65536 ^ k * z + 65536 ^ k * y := by
          rw [← Nat.mul_add, Nat.mod_add_div, Nat.mul_add, Nat.mul_add]
        omega
      have FIN := hid fin
      clear fin
      rcases hcase with t1 | ⟨t1, t2⟩ | ⟨t1, t2, t3⟩
      all_goals
        go_wp2_with (first
          | (go_at_call 74; (with_reducible refine (H1.out).mono ?_); rintro e w' ⟨rfl, rfl⟩)
          | (go_at_call 74; (with_reducible refine (H2.out).mono ?_); rintro e w' ⟨rfl, rfl⟩)
          | (with_reducible refine wl_append _ rfl (.tmp 34) (.tmp 38) 23 rfl 35 .u16 2 Tryd.underlying23 info16 w.heap.size _ _ _ zs rfl (ho.alloc _) _ 1 1 [(x + z + y) % 65536] rfl (one_rd _ _ _ _ _ (by first | rfl | (rw [IntKind.wrap_u16]; omega) | omega)) (by omega) (by omega) w (grown_trans hgr (World.grownBy_alloc _ _ _)) (Nat.le_refl _) (by simp; omega) ?_; intro p2 c2 w2 ho2 hg2))
        exact ⟨⟨k + 1, (x + z + y) / 65536, _, _, _, by omega, rfl, by congr 1, by omega, rfl, ho2, hg2, FIN.out _ rfl⟩, by simp [intOf]; omega⟩
end Go.Proofs.YtkggoniecmlglaaDoor

set_option linter.unusedVariables false
set_option linter.unusedSimpArgs false
namespace Go.Proofs.YtkggoniecmlglaaDoor
open Go.RowKit Nm

theorem refCmp_n {p q : Option Addr} {n c m d N M : Nat} {w : World} (hA : IsN w p n c N) (hB : IsN w q m d M) :
    Calls Tryd.prog 101 #[.slice p n c, .slice q m d] w fun e w' => e = .returned (.int .i64 (cmpI (N : Nat) (M : Nat))) ∧ w = w' := by
  obtain ⟨L, h1, h2, rfl⟩ := hA
  obtain ⟨K, k1, k2, rfl⟩ := hB
  exact refCmp_any p q n m c d L K w h1 k1 h2 k2

theorem refSub_e {p q : Option Addr} {n c m d N M : Nat} {w : World} (hA : IsN w p n c N) (hB : IsN w q m d M) (hlt : N < M) :
    Calls Tryd.prog 78 #[.slice p n c, .slice q m d] w fun e w' => e = .returned (.tuple #[.slice none 0 0, .int .i64 2]) ∧ w = w' := by
  have H1 := hid (refCmp_n hA hB)
  have HLT := hid (cmpI_lt hlt)
  clear hlt
  go_enter Tryd.func78, Tryd.ntmps78
  go_wp2_with fail
  refine H1.out.mono ?_
  rw [HLT.out]
  rintro e w' ⟨rfl, rfl⟩
  go_wp2_with fail
  go_ret2
  exact ⟨rfl, rfl⟩

set_option maxHeartbeats 2000000 in
theorem refSub_n {p q : Option Addr} {n c m d N M : Nat} {w : World} (hA : IsN w p n c N) (hB : IsN w q m d M) (hn : n ≤ 900000) (hle : M ≤ N) :
    Calls Tryd.prog 78 #[.slice p n c, .slice q m d] w fun e w' => ∃ p' n' c', e = .returned (.tuple #[.slice p' n' c', .int .i64 0]) ∧ IsC w' p' n' c' (N - M) ∧ n' ≤ n ∧ w.grownBy w' none := by
  have hc0 : 0 ≤ cmpI (N : Nat) (M : Nat) := by
    rcases Nat.lt_or_ge M N with h1 | h1
    · rw [cmpI_gt h1]; decide
    · rw [show N = M by omega, cmpI_eq]; decide
  have HC0 := hid (refCmp_n hA hB)
  generalize cmpI (N : Nat) (M : Nat) = s at *
  obtain ⟨xs, h1, hx, rfl⟩ := hA
  obtain ⟨ys, k1, hy, rfl⟩ := hB
  have hmax := h1.max
  have hcap := h1.cap
  have HLX := hid h1.len
  have HLY := hid k1.len
  have hxl := hx.lt
  rw [HLX.out] at hxl
  have hyt : vk ys n = V 65536 ys := by
    by_cases hm : ys.length ≤ n
    · exact vk_all ys n hm
    · unfold vk; rw [V_take_eq ys hy n (by omega), Nat.mod_eq_of_lt (by omega)]
  have HYT := hid hyt
  have HXL := hid hxl
  have HLE := hid hle
  have R1 := hid (fun W (h : IRd W .u16 p n c xs) i => refLimb_val p n c xs W h hx i)
  have R2 := hid (fun W (h : IRd W .u16 q m d ys) i => refLimb_val q m d ys W h hy i)
  clear hyt hxl hle
  go_enter Tryd.func78, Tryd.ntmps78
  go_wp2_with fail
  refine HC0.out.mono ?_
  rintro e w' ⟨rfl, rfl⟩
  go_wp2_with fail
  go_loopw [6, 7, 8] (fun s cy i wr => ∃ (k y : Nat) (p' : Option Addr) (c' : Nat) (zs : List Nat), k ≤ n ∧ i = .int .i64 k ∧ cy = .int .i64 y ∧ y ≤ 1 ∧ s = .slice p' k c' ∧ IOwn wr w.heap.size 35 .u16 p' k c' zs ∧ w.grownBy wr none ∧
      Hid (Dg 65536 zs ∧ V 65536 zs + vk ys k = vk xs k + 65536 ^ k * y)) (fun _ _ i _ => n - (intOf i).toNat)
  case atStart => exact ⟨0, 0, none, 0, [], by omega, rfl, rfl, by omega, rfl, IOwn.nil _ _ _ _, grown_refl _ _, hid ⟨Dg.nil, by simp [vk]⟩⟩
  case round =>
    obtain ⟨k, y, p', c', zs, hk, rfl, rfl, hy1, rfl, ho, hgr, HC⟩ := hrel
    by_cases hlt : k < n
    · have hx' := h1.keep hgr
      have hy' := k1.keep hgr
      have b1 := lb_lt hx k
      have b2 := lb_lt hy k
      have L1 := R1.out wr hx' k
      have L2 := R2.out wr hy' k
      have v1 := vk_succ xs k
      have v2 := vk_succ ys k
      generalize lb xs k = x at *
      generalize lb ys k = z at *
      have H1 := hid L1
      have H2 := hid L2
      have HV := hid (And.intro v1 v2)
      clear L1 L2 v1 v2
      have hok : w.heap.size ≤ wr.heap.size := hgr.size
      have t1 : (k : Int) < (n : Int) := by omega
      have fin : ∀ r b, r + (z + y) = x + 65536 * b → r < 65536 → Hid (Dg 65536 (zs ++ [r]) ∧ V 65536 (zs ++ [r]) + vk ys (k + 1) = vk xs (k + 1) + 65536 ^ (k + 1) * b) := by
        intro r b e hr
        refine hid ⟨HC.out.1.append (Dg.cons hr Dg.nil), ?_⟩
        rw [V_snoc, HV.out.1, HV.out.2, ho.1, Nat.pow_succ, Nat.mul_assoc]
        have h2 := HC.out.2
        have h3 : 65536 ^ k * (r + (z + y)) = 65536 ^ k * (x + 65536 * b) := by rw [e]
        rw [Nat.mul_add, Nat.mul_add, Nat.mul_add] at h3
        omega
      have FIN := hid fin
      clear fin
      by_cases hb : x < z + y
      · have t2 : (x : Int) - z - y < 0 := by omega
        go_wp2_with (first
          | (go_at_call 74; (with_reducible refine (H1.out).mono ?_); rintro e w' ⟨rfl, rfl⟩)
          | (go_at_call 74; (with_reducible refine (H2.out).mono ?_); rintro e w' ⟨rfl, rfl⟩)
          | (with_reducible refine wl_append _ rfl (.tmp 33) (.tmp 36) 23 rfl 35 .u16 2 Tryd.underlying23 info16 w.heap.size _ _ _ zs rfl (ho.alloc _) _ 1 1 [x + 65536 - z - y] rfl (one_rd _ _ _ _ _ (by first | rfl | (rw [IntKind.wrap_u16]; omega) | omega)) (by omega) (by omega) w (grown_trans hgr (World.grownBy_alloc _ _ _)) (Nat.le_refl _) (by simp; omega) ?_; intro p2 c2 w2 ho2 hg2))
        exact ⟨⟨k + 1, 1, _, _, _, by omega, rfl, rfl, by omega, rfl, ho2, hg2, FIN.out _ _ (by omega) (by omega)⟩, by simp [intOf]; omega⟩
      · have t2 : ¬ ((x : Int) - z - y < 0) := by omega
        go_wp2_with (first
          | (go_at_call 74; (with_reducible refine (H1.out).mono ?_); rintro e w' ⟨rfl, rfl⟩)
          | (go_at_call 74; (with_reducible refine (H2.out).mono ?_); rintro e w' ⟨rfl, rfl⟩)
          | (with_reducible refine wl_append _ rfl (.tmp 33) (.tmp 36) 23 rfl 35 .u16 2 Tryd.underlying23 info16 w.heap.size _ _ _ zs rfl (ho.alloc _) _ 1 1 [x - z - y] rfl (one_rd _ _ _ _ _ (by first | rfl | (rw [IntKind.wrap_u16]; omega) | omega)) (by omega) (by omega) w (grown_trans hgr (World.grownBy_alloc _ _ _)) (Nat.le_refl _) (by simp; omega) ?_; intro p2 c2 w2 ho2 hg2))
        exact ⟨⟨k + 1, 0, _, _, _, by omega, rfl, rfl, by omega, rfl, ho2, hg2, FIN.out _ _ (by omega) (by omega)⟩, by simp [intOf]; omega⟩
    · obtain rfl : k = n := by omega
      have HN : Hid (IsN wr p' k c' (V 65536 xs - V 65536 ys)) := hid ⟨zs, ho.rd, HC.out.1, by
        have h2 := HC.out.2
        rw [vk_all xs k (by rw [HLX.out]; omega), HYT.out] at h2
        have h3 := HC.out.1.lt
        rw [ho.1] at h3
        have h4 := HLE.out
        have h5 := HXL.out
        have : y = 0 := by
          rcases Nat.eq_zero_or_pos y with h | h
          · exact h
          · have := borrow_place h2 h4 h3 (by omega) (by omega); omega
        subst this
        simp at h2; omega⟩
      go_wp2_with fail
      refine (refNorm_n HN.out (by omega)).mono ?_
      rintro e w' ⟨p2, n2, c2, rfl, hc, hn2, hg⟩
      go_wp2_with fail
      go_ret2
      exact ⟨p2, n2, c2, rfl, hc, by omega, grown_trans hgr hg⟩
end Go.Proofs.YtkggoniecmlglaaDoor

set_option linter.unusedVariables false
set_option linter.unusedSimpArgs false
namespace Go.Proofs.YtkggoniecmlglaaDoor
open Go.RowKit Nm

theorem mul_small (x z : Nat) (hx : x < 65536) (hz : z < 65536) : x * z ≤ 4294836225 := Nat.mul_le_mul (show x ≤ 65535 by omega) (show z ≤ 65535 by omega)

theorem vk_mul_lt (xs ys : List Nat) (hx : Dg 65536 xs) (hy : Dg 65536 ys) (i m : Nat) (hm : ys.length = m) : vk xs i * V 65536 ys < 65536 ^ (i + m) := by
  have h1 : vk xs i < 65536 ^ i := by
    unfold vk
    exact Nat.lt_of_lt_of_le (hx.take i).lt (Nat.pow_le_pow_right (by omega) (by rw [List.length_take]; omega))
  have h2 := hy.lt
  rw [hm] at h2
  rw [Nat.pow_add]
  exact Nat.mul_lt_mul'' h1 h2

set_option maxHeartbeats 4000000 in
theorem refMul_n {p q : Option Addr} {n c m d N M : Nat} {w : World} (hA : IsN w p n c N) (hB : IsN w q m d M) (hn : n ≤ 400000) (hm : m ≤ 400000) :
    Calls Tryd.prog 40 #[.slice p n c, .slice q m d] w fun e w' => ∃ p' n' c', e = .returned (.slice p' n' c') ∧ IsC w' p' n' c' (N * M) ∧ n' ≤ n + m + 1 ∧ w.grownBy w' none := by
  obtain ⟨xs, h1, hx, rfl⟩ := hA
  obtain ⟨ys, k1, hy, rfl⟩ := hB
  have hmax := h1.max
  have hcap := h1.cap
  have HLX := hid h1.len
  have HLY := hid k1.len
  have R2 := hid (fun W (h : IRd W .u16 q m d ys) i => refLimb_val q m d ys W h hy i)
  have HVL := hid (fun i => vk_mul_lt xs ys hx hy i m HLY.out)
  obtain ⟨Y, hY⟩ : ∃ Y, Y = V 65536 ys := ⟨_, rfl⟩
  have HY := hid hY
  clear hY
  obtain ⟨g, hg⟩ : ∃ g, g = w.heap.size := ⟨_, rfl⟩
  go_enter Tryd.func40, Tryd.ntmps40
  go_wp2_with (at_make; refine wl_make _ rfl _ _ 23 rfl 35 .u16 2 Tryd.underlying23 (by kernel_rfl) _ _ _ _ rfl rfl (n + m + 1) (by omega) (by omega) (by omega) (by omega) ?_; intro w1 hr1 hg1)
  rw [← hg] at hr1 ⊢
  have HG := hid hg
  clear hg
  go_loopw [6] (fun i wr => ∃ (k : Nat) (cur : List Nat), k ≤ n ∧ i = .int .i64 k ∧ IRow wr g 35 .u16 cur ∧ w1.grownBy wr (some g) ∧ Hid (cur.length = n + m + 1 ∧ Dg 65536 cur ∧ V 65536 cur = vk xs k * Y)) (fun i _ => n - (intOf i).toNat)
  case atStart => exact ⟨0, _, Nat.zero_le _, rfl, hr1, grown_refl _ _, hid ⟨by simp, Dg.zeros (by omega) _, by simp [V_zeros, vk]⟩⟩
  case round =>
    obtain ⟨i, cur, hi, rfl, hrow, hgr, HC⟩ := hrel
    by_cases hlt : i < n
    · have hiu : i < xs.length := by rw [HLX.out]; exact hlt
      obtain ⟨b, o, rfl, hc1⟩ := h1.cel i hiu
      have hbl := World.block_lt_of_cell? _ _ hc1
      obtain ⟨x, hx'⟩ : ∃ x, x = xs[i] := ⟨_, rfl⟩
      rw [← hx'] at hc1
      have hxb : x < 65536 := by rw [hx']; exact hx.get i hiu
      have HX : Hid (vk xs (i + 1) = vk xs i + 65536 ^ i * x) := hid (by rw [vk_succ, hx']; unfold lb; rw [List.getElem?_eq_getElem hiu]; rfl)
      clear hx'
      have ti : (i : Int) < (n : Int) := by omega
      go_wp2_with fail
      go_loopw [7, 8] (fun cy s wq => ∃ (k y : Nat) (cu : List Nat), k ≤ m + 1 ∧ s = .int .i64 k ∧ cy = .int .u64 y ∧ y < 65536 ∧ IRow wq g 35 .u16 cu ∧ w1.grownBy wq (some g) ∧
          Hid (cu.length = n + m + 1 ∧ Dg 65536 cu ∧ V 65536 cu + 65536 ^ (i + k) * y = vk xs i * Y + 65536 ^ i * (x * vk ys k))) (fun _ s _ => m + 1 - (intOf s).toNat)
      case atStart => exact ⟨0, 0, cur, by omega, rfl, rfl, by omega, hrow, hgr, hid ⟨HC.out.1, HC.out.2.1, by rw [HC.out.2.2]; simp [vk]⟩⟩
      case round =>
        obtain ⟨k, y, cu, hk, rfl, rfl, hyb, hrow, hgr, HC⟩ := hrel
        by_cases hend : m ≤ k ∧ y = 0
        · obtain ⟨he1, rfl⟩ := hend
          have t1 : ¬ ((k : Int) < (m : Int)) := by omega
          go_wp2
          refine ⟨⟨i + 1, cu, by omega, rfl, hrow, hgr, hid ⟨HC.out.1, HC.out.2.1, ?_⟩⟩, by simp [intOf]; omega⟩
          have h2 := HC.out.2.2
          rw [vk_all ys k (by rw [HLY.out]; exact he1), ← HY.out, Nat.mul_zero, Nat.add_zero] at h2
          rw [h2, HX.out, Nat.add_mul, Nat.mul_assoc]
        · have hkm : k < m + 1 := by
            rcases Nat.lt_or_ge k (m + 1) with h | h
            · exact h
            · obtain rfl : k = m + 1 := by omega
              have hyp : y ≠ 0 := fun e => hend ⟨by omega, e⟩
              have h2 := HC.out.2.2
              rw [vk_all ys _ (by rw [HLY.out]; omega), ← HY.out, ← Nat.mul_assoc, ← Nat.add_mul, ← HX.out] at h2
              have h3 := HVL.out (i + 1)
              rw [← HY.out] at h3
              have := carry_place h2 h3 hyp (by omega)
              omega
          have hcl : i + k < cu.length := by rw [HC.out.1]; omega
          have hcc := hrow.cell (i + k) hcl
          have hfr := hrow.free (i + k)
          obtain ⟨t, ht⟩ : ∃ t, t = cu[i + k] := ⟨_, rfl⟩
          rw [← ht] at hcc
          have htb : t < 65536 := by rw [ht]; exact HC.out.2.1.get _ hcl
          have HTT := hid ht
          have hgw : w.grownBy wr none := grown_new hg1 hgr (fun g' e' => by cases e'; rw [HG.out]; exact Nat.le_refl _)
          have hca := hgw.cell hc1 (by simp)
          have b2 := lb_lt hy k
          have L2 := fun W h => R2.out W h k
          have v2 := vk_succ ys k
          generalize lb ys k = z at *
          have hyw := k1.keep hgw
          have H2 := hid L2
          have HV2 := hid v2
          clear ht L2 v2
          have hm1 := mul_small x z hxb b2
          have hm2 : (x : Int) * (z : Int) ≤ 4294836225 := by rw [← Int.natCast_mul]; omega
          have hm3 : (0 : Int) ≤ (x : Int) * (z : Int) := by rw [← Int.natCast_mul]; omega
          have hcase : ((k : Int) < (m : Int)) ∨ (¬ ((k : Int) < (m : Int)) ∧ (0 : Int) < (y : Int)) := by
            have : m ≤ k → ¬ y = 0 := fun h e => hend ⟨h, e⟩
            omega
          have hik : (0 : Int) ≤ (i : Int) + k := by omega
          have hik2 : (i : Int) + k < (n : Int) + m + 1 := by omega
          clear hend
          rcases hcase with t1 | ⟨t1, t2⟩
          all_goals
            go_wp2
            go_quiet ((go_at_call 74; exact quiet_same (H2.out _ (hyw.keep (grown_drewN _ _ _)))))
            go_wp2
            have e0 : (t : Int) + (x : Int) * z + y = ((t + x * z + y : Nat) : Int) := by simp
            have hs := step_add (B := 65536) cu (i + k) ((t + x * z + y) % 65536) ((t + x * z + y) / 65536) (x * z + y) hcl (by rw [← HTT.out]; omega)
            refine ⟨⟨k + 1, (t + x * z + y) / 65536, _, by omega, rfl, ?_, by omega, hrow.setv _ _ ((t + x * z + y) % 65536) ?_, grown_trans (gdN hgr _) (grown_setCell _ _ _), hid ⟨by simpa using HC.out.1, HC.out.2.1.set _ _ (Nat.mod_lt _ (by omega)), ?_⟩⟩, by simp [intOf]; omega⟩
            · congr 1
            · omega
            · have h2 := HC.out.2.2
              have e1 : 65536 ^ i * (65536 ^ k * (x * z)) = 65536 ^ (i + k) * (x * z) := by rw [← Nat.mul_assoc, ← Nat.pow_add]
              rw [HV2.out, Nat.mul_add x, Nat.mul_add (65536 ^ i), Nat.mul_left_comm x, e1]
              rw [Nat.mul_add (65536 ^ (i + k)) (x * z) y] at hs
              rw [show i + (k + 1) = i + k + 1 by omega]
              omega
    · obtain rfl : i = n := by omega
      have HN : Hid (IsN wr (some ⟨g, 0, none⟩) (i + m + 1) (i + m + 1) (V 65536 xs * V 65536 ys)) := hid ⟨cur, by have := hrow.rd0 (by rw [HC.out.1]; omega); rwa [HC.out.1] at this, HC.out.2.1, by
        rw [HC.out.2.2, vk_all xs i (by rw [HLX.out]; exact Nat.le_refl _), HY.out]⟩
      go_wp2_with fail
      refine (refNorm_n HN.out (by omega)).mono ?_
      rintro e w' ⟨p2, n2, c2, rfl, hc, hn2, hg⟩
      go_wp2_with fail
      go_ret
      exact ⟨p2, n2, c2, rfl, hc, by omega, grown_trans (grown_new hg1 hgr (fun g' e' => by cases e'; rw [HG.out]; exact Nat.le_refl _)) hg⟩
end Go.Proofs.YtkggoniecmlglaaDoor

set_option linter.unusedVariables false
set_option linter.unusedSimpArgs false
namespace Go.Proofs.YtkggoniecmlglaaDoor
open Go.RowKit Nm

theorem IsC.len_le {w : World} {p : Option Addr} {n c N k : Nat} (h : IsC w p n c N) (hN : N < 65536 ^ k) : n ≤ k := by rw [← h.len]; exact dg_length_le (by omega) hN

theorem natDivMod_zero (a b : Option Addr) (n m c d : Nat) (xs ys : List Nat) (w : World) (h : IRd w .u16 a n c xs) (k : IRd w .u16 b m d ys) (hy : Dg 65536 ys) (h0 : V 65536 ys = 0) :
    Calls Tryd.prog 33 #[.slice a n c, .slice b m d] w fun e w' => e = .returned (.tuple #[.slice none 0 0, .slice none 0 0, .int .i64 3]) ∧ w = w' := by
  have R1 := hid (trim16 a n c xs w h)
  have R2 := hid (trim16 b m d ys w k)
  have hl : (trimR ys).length = 0 := by
    rw [trimR_dg (by omega) hy, h0]; rfl
  rw [hl] at R2
  clear hl h0
  generalize (trimR xs).length = lx at *
  go_enter Tryd.func33, Tryd.ntmps33
  go_wp2_with (first
    | (go_at_call 42; (with_reducible refine (R1.out).mono ?_); rintro e w' ⟨rfl, rfl⟩)
    | (go_at_call 42; (with_reducible refine (R2.out).mono ?_); rintro e w' ⟨rfl, rfl⟩))
  go_ret3
  exact ⟨rfl, rfl⟩

theorem len_words {ys : List Nat} (h : Nm.Can 65536 ys) (hl : 4 < ys.length) (vs : List Nat) (hv : Dg W64 vs) (m : Nat) (hm : m + 2 = (ys.length + 3) / 4) (lv : vs.length = m + 2) (e : V W64 vs = V 65536 ys) :
    ∀ t, vs[m + 1]? = some t → 0 < t := by
  intro t ht
  rcases Nat.eq_zero_or_pos t with h0 | h0
  · exfalso
    subst h0
    have hvl : m + 1 < vs.length := by omega
    rw [List.getElem?_eq_getElem hvl] at ht
    have a1 := V_take_drop (B := W64) vs (m + 1) (by omega)
    have a2 := V_drop_succ (B := W64) vs (m + 1) hvl
    rw [show vs.drop (m + 1 + 1) = [] from List.drop_of_length_le (by omega), Option.some.inj ht] at a2
    simp only [V_nil, Nat.mul_zero, Nat.add_zero] at a2
    rw [a2, Nat.mul_zero, Nat.add_zero] at a1
    have a3 := (hv.take (m + 1)).lt
    rw [List.length_take, Nat.min_eq_left (by omega), ← a1, e, W64_eq, ← Nat.pow_mul] at a3
    have a4 := h.low (by omega) (by intro e; subst e; simp at hl)
    have a5 : 65536 ^ (4 * (m + 1)) ≤ 65536 ^ (ys.length - 1) := Nat.pow_le_pow_right (by omega) (by omega)
    omega
  · exact h0

set_option maxHeartbeats 2000000 in
theorem natDivMod_any (a b : Option Addr) (n m c d : Nat) (xs ys : List Nat) (w : World) (h : IRd w .u16 a n c xs) (k : IRd w .u16 b m d ys) (hx : Dg 65536 xs) (hy : Dg 65536 ys) (hn : n ≤ 800000) (hm : m ≤ 800000) (hpos : 0 < V 65536 ys) :
    Calls Tryd.prog 33 #[.slice a n c, .slice b m d] w (DmPost w (V 65536 xs) (V 65536 ys)) := by
  by_cases hsm : (trimR xs).length ≤ 4 ∧ (trimR ys).length ≤ (trimR xs).length
  · exact natDivMod_small a b n m c d xs ys w h k hx hy hsm.1 hsm.2 hpos
  have ht := h.take (trimR xs).length (by rw [← h.len]; exact trimR_length_le xs)
  have kt := k.take (trimR ys).length (by rw [← k.len]; exact trimR_length_le ys)
  rw [← trimR_eq_take] at ht kt
  have hcx := Can_trimR hx
  have hcy := Can_trimR hy
  have hvx := V_trimR (B := 65536) xs
  have hvy := V_trimR (B := 65536) ys
  have hnl : (trimR xs).length ≤ n := by rw [← h.len]; exact trimR_length_le xs
  have hml : (trimR ys).length ≤ m := by rw [← k.len]; exact trimR_length_le ys
  have R1 := hid (trim16 a n c xs w h)
  have R2 := hid (trim16 b m d ys w k)
  have hcap := ht.cap
  have kcap := kt.cap
  have hmax := ht.max
  have kmax := kt.max
  rw [← hvy] at hpos ⊢
  rw [← hvx]
  generalize trimR xs = us at *
  generalize trimR ys = vs at *
  clear hvx hvy h k
  have hv0 : 0 < vs.length := by
    rcases Nat.eq_zero_or_pos vs.length with h0 | h0
    · rw [List.eq_nil_of_length_eq_zero h0] at hpos; simp at hpos
    · exact h0
  have e1 : (((vs.length : Int) == 0) = false) := beq_eq_false_iff_ne.2 (by omega)
  by_cases hlt : us.length < vs.length
  · have e2 : ((us.length : Int) < (vs.length : Int)) := by omega
    have hval := Nm.Can.lt_of_length (B := 65536) (by omega) hcx.1 hcy hlt
    have hq : V 65536 us / V 65536 vs = 0 := Nat.div_eq_of_lt hval
    have hr : V 65536 us % V 65536 vs = V 65536 us := Nat.mod_eq_of_lt hval
    have HU := hid (eq_dg (by omega) hcx)
    have HPOST : Hid (∀ p cc W, IRd W .u16 p us.length cc us → w.grownBy W none → DmPost w (V 65536 us) (V 65536 vs) (.returned (.tuple #[.slice none 0 0, .slice p us.length cc, .int .i64 0])) W) := hid (fun p cc W h1 h2 => by
      have hl : (dg 65536 (V 65536 us)).length = us.length := by rw [← HU.out]
      refine ⟨none, p, 0, cc, ?_, ?_, ?_, h2⟩
      · rw [hq, hr, hl]; rfl
      · rw [hq]; exact IRd.nil _ _
      · rw [hr, ← HU.out]; exact h1)
    clear hval hq hr
    go_enter Tryd.func33, Tryd.ntmps33
    go_wp2_with (first
      | (go_at_call 42; (with_reducible refine (R1.out).mono ?_); rintro e w' ⟨rfl, rfl⟩)
      | (go_at_call 42; (with_reducible refine (R2.out).mono ?_); rintro e w' ⟨rfl, rfl⟩)
      | (go_at_call 56; refine (clone_any _ _ _ us _ ht (by omega)).mono ?_; rintro e w2 ⟨rfl, hr2, hg2⟩))
    go_ret3
    exact HPOST.out _ _ _ (hr2.rd0 (by omega)) hg2
  · have e2 : ¬ ((us.length : Int) < (vs.length : Int)) := by omega
    have e3 : ¬ ((us.length : Int) ≤ 4) := by omega
    by_cases h4 : vs.length ≤ 4
    · have e4 : ((vs.length : Int) ≤ 4) := by omega
      have hyb : V 65536 vs < W64 := by rw [W64_eq]; exact V_word hcy.1 4 h4
      have HP := hid (pack_any a us.length c us w ht hcx.1 (by omega))
      go_enter Tryd.func33, Tryd.ntmps33
      go_wp2_with (first
        | (go_at_call 42; (with_reducible refine (R1.out).mono ?_); rintro e w' ⟨rfl, rfl⟩)
        | (go_at_call 42; (with_reducible refine (R2.out).mono ?_); rintro e w' ⟨rfl, rfl⟩))
      refine HP.out.mono ?_
      rintro e w1 ⟨L, zs, rfl, hr1, HZ, hg1⟩
      have HW := hid (word_any b vs.length d vs w1 (kt.keep hg1) hcy.1 h4)
      have hLz : zs.length = L := HZ.out.2.1
      have hLb : L ≤ 200001 := by have := HZ.out.1; omega
      have HD := hid (divW_any w.heap.size L L zs (V 65536 vs) w1 hr1 (by omega) (Nat.le_refl _) (by omega) (by omega) HZ.out.2.2.2 hpos hyb)
      have HLz := hid hLz
      clear hLz
      generalize hyv : V 65536 vs = Y at *
      have HY := hid hyv
      clear hyv
      go_wp2_with (first
        | (go_at_call 44; (with_reducible refine (HW.out).mono ?_); rintro e w' ⟨rfl, rfl⟩)
        | (go_at_call 46; (with_reducible refine (HD.out).mono ?_); rintro e w2 ⟨cu, rfl, hr2, hg2, HC⟩))
      have hcl : cu.length = L := by rw [HC.out.1, HLz.out]
      have hrd := hr2.rd0 (by omega)
      rw [hcl] at hrd
      have hq0 : V W64 cu = V 65536 us / Y := by
        have h1 := HC.out.2.2.1
        rw [List.take_of_length_le (by omega), List.take_of_length_le (by rw [HLz.out]; exact Nat.le_refl _), HZ.out.2.2.1] at h1
        exact h1
      have hr0 : V W64 (List.take L zs) = V 65536 us := by rw [List.take_of_length_le (by rw [HLz.out]; exact Nat.le_refl _), HZ.out.2.2.1]
      have hrb : V 65536 us % Y < W64 := Nat.lt_trans (Nat.mod_lt _ hpos) hyb
      have HU := hid (unpack_any _ L L cu _ hrd HC.out.2.1 (by omega))
      rw [hq0] at HU
      rw [hr0]
      have hgw : w.grownBy w2 none := grown_new hg1 hg2 (fun g' e' => by cases e'; exact Nat.le_refl _)
      clear hcl hrd hq0 hr0 hg1 hg2 hr1 hr2 HD HW HP
      generalize hqq : V 65536 us / Y = QQ at *
      generalize hrr : V 65536 us % Y = RR at *
      have HQQ := hid hqq
      have HRR := hid hrr
      clear hqq hrr
      have HPOST : Hid (∀ p1 c1 p2 c2 W, IRd W .u16 p1 (dg 65536 QQ).length c1 (dg 65536 QQ) → IRd W .u16 p2 (dg 65536 RR).length c2 (dg 65536 RR) → w.grownBy W none → DmPost w (V 65536 us) Y (.returned (.tuple #[.slice p1 (dg 65536 QQ).length c1, .slice p2 (dg 65536 RR).length c2, .int .i64 0])) W) := hid (fun p1 c1 p2 c2 W g1 g2 g3 => by
        refine ⟨p1, p2, c1, c2, ?_, ?_, ?_, g3⟩
        · rw [HQQ.out, HRR.out]
        · rw [HQQ.out]; exact g1
        · rw [HRR.out]; exact g2)
      refine HU.out.mono ?_
      rintro e w3 ⟨p1, c1, rfl, hr3, hg3⟩
      have HZI : Hid (((V 65536 us : Nat) : Int) % (Y : Int) = (RR : Int)) := hid (by rw [← HRR.out]; simp)
      go_wp2_with fail
      first
        | with_reducible refine (of_at _ RR HZI.out hrb _).mono ?_
        | with_reducible refine (of_at _ RR rfl hrb _).mono ?_
      rintro e w4 ⟨p2, c2, rfl, hr4, hg4⟩
      go_wp2_with fail
      go_ret3
      exact HPOST.out _ _ _ _ _ (hr3.keep hg4) hr4 (grown_trans hgw (grown_trans hg3 hg4))
    · have e4 : ¬ ((vs.length : Int) ≤ 4) := by omega
      have HP := hid (pack_any a us.length c us w ht hcx.1 (by omega))
      go_enter Tryd.func33, Tryd.ntmps33
      go_wp2_with (first
        | (go_at_call 42; (with_reducible refine (R1.out).mono ?_); rintro e w' ⟨rfl, rfl⟩)
        | (go_at_call 42; (with_reducible refine (R2.out).mono ?_); rintro e w' ⟨rfl, rfl⟩))
      refine HP.out.mono ?_
      rintro e w1 ⟨L, zs, rfl, hr1, HZ, hg1⟩
      go_wp2_with fail
      refine (pack_any b vs.length d vs w1 (kt.keep hg1) hcy.1 (by omega)).mono ?_
      rintro e w2 ⟨M', ws, rfl, hr2, HWS, hg2⟩
      obtain ⟨M, hM⟩ : ∃ M, M' = M + 2 := ⟨M' - 2, by have := HWS.out.1; omega⟩
      subst hM
      have hlz := HZ.out.2.1
      have hlw := HWS.out.2.1
      have hrd1 := (hr1.kept hg2 (by simp)).rd0 (by have := HZ.out.1; omega)
      have hrd2 := hr2.rd0 (by have := HWS.out.1; omega)
      rw [hlz] at hrd1
      rw [hlw] at hrd2
      have HDV := hid (divide_any _ _ L M L (M + 2) zs ws w2 hrd1 hrd2 HZ.out.2.2.2 HWS.out.2.2.2 (by have := HZ.out.1; have := HWS.out.1; omega) (by have := HZ.out.1; omega) (by have := HWS.out.1; omega)
        (len_words hcy (by omega) ws HWS.out.2.2.2 M HWS.out.1 hlw HWS.out.2.2.1))
      have hgw := grown_trans hg1 hg2
      have hVz := HZ.out.2.2.1
      have hVw := HWS.out.2.2.1
      rw [hVz, hVw] at HDV
      clear hlz hlw hrd1 hrd2 hr1 hr2 hg1 hg2 hVz hVw HP
      go_wp2_with fail
      refine HDV.out.mono ?_
      rintro e w3 ⟨a1, a2, n1, n2, qs, rs, rfl, hq3, hr3, hn1, hn2, HF, hg3⟩
      generalize hqq : V 65536 us / V 65536 vs = QQ at *
      generalize hrr : V 65536 us % V 65536 vs = RR at *
      have HQQ := hid hqq
      have HRR := hid hrr
      clear hqq hrr
      have HPOST : Hid (∀ p1 c1 p2 c2 W, IRd W .u16 p1 (dg 65536 QQ).length c1 (dg 65536 QQ) → IRd W .u16 p2 (dg 65536 RR).length c2 (dg 65536 RR) → w.grownBy W none → DmPost w (V 65536 us) (V 65536 vs) (.returned (.tuple #[.slice p1 (dg 65536 QQ).length c1, .slice p2 (dg 65536 RR).length c2, .int .i64 0])) W) := hid (fun p1 c1 p2 c2 W g1 g2 g3 => by
        refine ⟨p1, p2, c1, c2, ?_, ?_, ?_, g3⟩
        · rw [HQQ.out, HRR.out]
        · rw [HQQ.out]; exact g1
        · rw [HRR.out]; exact g2)
      have hU1 := unpack_any _ n1 n1 qs _ hq3 HF.out.1 (by omega)
      rw [HF.out.2.2.1] at hU1
      have HU1 := hid hU1
      have hU2 := fun w4 (hg4 : w3.grownBy w4 none) => unpack_any _ n2 n2 rs _ (hr3.keep hg4) HF.out.2.1 (by omega)
      rw [HF.out.2.2.2] at hU2
      have HU2 := hid hU2
      clear hU1 hU2 HDV
      go_wp2_with fail
      refine HU1.out.mono ?_
      rintro e w4 ⟨p1, c1, rfl, hr4, hg4⟩
      go_wp2_with fail
      refine (HU2.out _ hg4).mono ?_
      rintro e w5 ⟨p2, c2, rfl, hr5, hg5⟩
      go_wp2_with fail
      go_ret3
      exact HPOST.out _ _ _ _ _ (hr4.keep hg5) hr5 (grown_trans hgw (grown_trans hg3 (grown_trans hg4 hg5)))

section
variable {w w' : World} {p q : Option Addr} {n c m d N M : Nat}
theorem natDivMod_n (hA : IsN w p n c N) (hB : IsN w q m d M) (hn : n ≤ 800000) (hm : m ≤ 800000) (hpos : 0 < M) :
    Calls Tryd.prog 33 #[.slice p n c, .slice q m d] w fun e w' => ∃ (p1 : Option Addr) (n1 c1 : Nat) (p2 : Option Addr) (n2 c2 : Nat), e = .returned (.tuple #[.slice p1 n1 c1, .slice p2 n2 c2, .int .i64 0]) ∧
      IsC w' p1 n1 c1 (N / M) ∧ IsC w' p2 n2 c2 (N % M) ∧ n1 ≤ n ∧ n2 ≤ n ∧ n2 ≤ m ∧ w.grownBy w' none := by
  have lA := hA.lt
  have lB := hB.lt
  obtain ⟨L, h1, h2, rfl⟩ := hA
  obtain ⟨K, k1, k2, rfl⟩ := hB
  refine (natDivMod_any p q n m c d L K w h1 k1 h2 k2 hn hm hpos).mono fun e w' ⟨a1, a2, c1, c2, he, g1, g2, hg⟩ => ⟨a1, _, c1, a2, _, c2, he, g1, g2, ?_, ?_, ?_, hg⟩
  · exact dg_length_le (by omega) (Nat.lt_of_le_of_lt (Nat.div_le_self _ _) lA)
  · exact dg_length_le (by omega) (Nat.lt_of_le_of_lt (Nat.mod_le _ _) lA)
  · exact dg_length_le (by omega) (Nat.lt_trans (Nat.mod_lt _ hpos) lB)

theorem natDivMod_e (hA : IsN w p n c N) (hB : IsN w q m d 0) :
    Calls Tryd.prog 33 #[.slice p n c, .slice q m d] w fun e w' => e = .returned (.tuple #[.slice none 0 0, .slice none 0 0, .int .i64 3]) ∧ w.grownBy w' none := by
  obtain ⟨L, h1, h2, _⟩ := hA
  obtain ⟨K, k1, k2, k3⟩ := hB
  exact (natDivMod_zero p q n m c d L K w h1 k1 k2 k3).mono fun e w' ⟨he, hw⟩ => ⟨he, hw ▸ grown_refl _ _⟩
end
end Go.Proofs.YtkggoniecmlglaaDoor

set_option linter.unusedVariables false
set_option linter.unusedSimpArgs false
namespace Go.Proofs.YtkggoniecmlglaaDoor
open Go.RowKit Nm

theorem refOf_c (x : Nat) (hx : x < W64) (w : World) : Calls Tryd.prog 41 #[.int .u64 x] w fun e w' => ∃ p n c, e = .returned (.slice p n c) ∧ IsC w' p n c x ∧ n ≤ 4 ∧ w.grownBy w' none :=
  (refOf_any x hx w).mono fun e w' ⟨p, c, he, hr, hg⟩ => ⟨p, _, c, he, hr, dg_length_le (by omega) (by rw [← W64_eq]; exact hx), hg⟩

set_option maxHeartbeats 1000000 in
theorem refDigit_n {w : World} {p q : Option Addr} {n c m d R B : Nat} (hR : IsN w p n c R) (hB : IsN w q m d B) (hm : m ≤ 300000) (hpos : 0 < B) (hlt : R < 65536 * B) :
    Calls Tryd.prog 77 #[.slice p n c, .slice q m d] w fun e w' => e = .returned (.int .u64 (R / B : Nat)) ∧ w.grownBy w' none := by
  have hq : R / B ≤ 65535 := by
    have := Nat.div_lt_of_lt_mul (by rw [Nat.mul_comm] at hlt; exact hlt)
    omega
  obtain ⟨Q, hQ⟩ : ∃ Q, Q = R / B := ⟨_, rfl⟩
  have hcmp : ∀ k, k ≤ Q ↔ B * k ≤ R := fun k => by rw [hQ, Nat.le_div_iff_mul_le hpos, Nat.mul_comm]
  have HC := hid hcmp
  rw [← hQ] at hq ⊢
  clear hcmp hQ hlt
  go_enter Tryd.func77, Tryd.ntmps77
  go_wp2_with fail
  go_loopw [5, 6] (fun s5 s6 wr => ∃ lo hi : Nat, s5 = .int .u64 lo ∧ s6 = .int .u64 hi ∧ lo ≤ Q ∧ Q ≤ hi ∧ hi ≤ 65535 ∧ w.grownBy wr none) (fun s5 s6 _ => (intOf s6 - intOf s5).toNat)
  case atStart => exact ⟨0, 65535, rfl, rfl, by omega, hq, by omega, grown_refl _ _⟩
  case round =>
    obtain ⟨lo, hi, rfl, rfl, h1, h2, h3, hgr⟩ := hrel
    by_cases hlt : lo < hi
    · have hlt' : (lo : Int) < (hi : Int) := by omega
      obtain ⟨mid, hmid⟩ : ∃ mid, mid = (lo + hi + 1) / 2 := ⟨_, rfl⟩
      have e1 : ((lo : Int) + (hi : Int) + 1) / 2 = (mid : Int) := by omega
      have hm1 : lo < mid := by omega
      have hm2 : mid ≤ hi := by omega
      obtain ⟨mid1, hmid1⟩ : ∃ mid1, mid1 = mid - 1 := ⟨_, rfl⟩
      have e2 : (mid : Int) - 1 = (mid1 : Int) := by omega
      have hB' := hB.keep hgr
      have hR' := hR.keep hgr
      have HMM := hid (And.intro hmid hmid1)
      clear hmid hmid1
      go_wp2_with fail
      refine (refOf_c mid (by unfold W64; omega) _).mono ?_
      rintro e w1 ⟨p1, n1, c1, rfl, hO, hn1, hg1⟩
      go_wp2_with fail
      refine (refMul_n (hB'.keep hg1) hO.isN (by omega) (by omega)).mono ?_
      rintro e w2 ⟨p2, n2, c2, rfl, hM, hn2, hg2⟩
      go_wp2_with fail
      refine (refCmp_n hM.isN ((hR'.keep hg1).keep hg2)).mono ?_
      have hgw := grown_trans hgr (grown_trans hg1 hg2)
      by_cases hle : B * mid ≤ R
      · have hc : cmpI ((B * mid : Nat) : Int) (R : Int) = -1 ∨ cmpI ((B * mid : Nat) : Int) (R : Int) = 0 := by
          rcases Nat.lt_or_ge (B * mid) R with h | h
          · exact .inl (cmpI_lt h)
          · right; rw [show B * mid = R by omega, cmpI_eq]
        have hmq := (HC.out mid).2 hle
        rcases hc with hc | hc <;> rw [hc] <;> clear hc hle
        all_goals
          rintro e w3 ⟨rfl, rfl⟩
          go_wp2_with fail
          exact ⟨⟨mid, hi, rfl, rfl, hmq, h2, h3, hgw⟩, by simp [intOf]; omega⟩
      · have hc : cmpI ((B * mid : Nat) : Int) (R : Int) = 1 := cmpI_gt (by omega)
        have hmq : ¬ mid ≤ Q := fun h => hle ((HC.out mid).1 h)
        rw [hc]
        clear hc hle
        rintro e w3 ⟨rfl, rfl⟩
        go_wp2_with fail
        exact ⟨⟨lo, mid1, rfl, rfl, h1, by have := HMM.out.2; omega, by omega, hgw⟩, by simp [intOf]; omega⟩
    · obtain rfl : lo = Q := by omega
      go_wp2_with fail
      go_ret
      exact ⟨rfl, hgr⟩

/-- a new slice of one number, of the call's own -/
theorem one_own (w : World) (base : Nat) (e : TypeId) (k : IntKind) (v : Int) (y : Nat) (hv : v = (y : Int)) (hb : base ≤ w.heap.size) : IOwn (w.alloc (.cells #[.int k v] e)) base e k (some ⟨w.heap.size, 0, none⟩) 1 1 [y] := by
  subst hv
  exact IOwn.made w base e k [y] hb (by simp)

theorem cons_isN {w : World} {p : Option Addr} {n c x : Nat} {xs : List Nat} (h : IRd w .u16 p (1 + n) c ([x] ++ xs)) (hx : x < 65536) (hd : Dg 65536 xs) : IsN w p (1 + n) c (x + 65536 * V 65536 xs) :=
  ⟨_, h, Dg.cons hx hd, rfl⟩

theorem refDivMod_e {w : World} {p q : Option Addr} {n c m d N : Nat} (hA : IsN w p n c N) (hB : IsN w q m d 0) (hn : n ≤ 300000) (hm : m ≤ 300000) :
    Calls Tryd.prog 49 #[.slice p n c, .slice q m d] w fun e w' => e = .returned (.tuple #[.slice none 0 0, .slice none 0 0, .int .i64 3]) ∧ w.grownBy w' none := by
  go_enter Tryd.func49, Tryd.ntmps49
  go_wp2_with fail
  refine (refNorm_n hA (by omega)).mono ?_
  rintro e w1 ⟨p1, n1, c1, rfl, hA1, hn1, hg1⟩
  go_wp2_with fail
  refine (refNorm_n (hB.keep hg1) (by omega)).mono ?_
  rintro e w2 ⟨p2, n2, c2, rfl, hB2, hn2, hg2⟩
  have hz : n2 = 0 := by rw [← hB2.len]; rfl
  subst hz
  go_wp2_with fail
  go_ret3
  exact ⟨rfl, grown_trans hg1 hg2⟩

set_option maxHeartbeats 2000000 in
theorem refDivMod_n {w : World} {p q : Option Addr} {n c m d N M : Nat} (hA : IsN w p n c N) (hB : IsN w q m d M) (hn : n ≤ 300000) (hm : m ≤ 300000) (hpos : 0 < M) :
    Calls Tryd.prog 49 #[.slice p n c, .slice q m d] w fun e w' => ∃ (p1 : Option Addr) (n1 c1 : Nat) (p2 : Option Addr) (n2 c2 : Nat), e = .returned (.tuple #[.slice p1 n1 c1, .slice p2 n2 c2, .int .i64 0]) ∧
      IsC w' p1 n1 c1 (N / M) ∧ IsC w' p2 n2 c2 (N % M) ∧ n1 ≤ n ∧ n2 ≤ n ∧ w.grownBy w' none := by
  have HNL := hid hA.lt
  have HML := hid hB.lt
  go_enter Tryd.func49, Tryd.ntmps49
  go_wp2_with fail
  refine (refNorm_n hA (by omega)).mono ?_
  rintro e w1 ⟨p1, n1, c1, rfl, hA1, hn1, hg1⟩
  go_wp2_with fail
  refine (refNorm_n (hB.keep hg1) (by omega)).mono ?_
  rintro e w2 ⟨p2, n2, c2, rfl, hB2, hn2, hg2⟩
  replace hA1 := hA1.keep hg2
  have hgw := grown_trans hg1 hg2
  have hn20 : n2 ≠ 0 := by
    intro h0
    have := hB2.isN.lt
    rw [h0] at this; simp at this; omega
  have e0 : (((n2 : Int) == 0) = false) := beq_eq_false_iff_ne.2 (by omega)
  clear hg1 hg2 hA hB
  by_cases h4 : n1 ≤ 4 ∧ n2 ≤ 4
  · obtain ⟨h41, h42⟩ := h4
    have h41' : (n1 : Int) ≤ 4 := by omega
    have h42' : (n2 : Int) ≤ 4 := by omega
    have hNb : N < W64 := by rw [W64_eq]; exact Nat.lt_of_lt_of_le hA1.isN.lt (Nat.pow_le_pow_right (by omega) h41)
    have hMb : M < W64 := by rw [W64_eq]; exact Nat.lt_of_lt_of_le hB2.isN.lt (Nat.pow_le_pow_right (by omega) h42)
    have HS1 := fun W (h : IsC W p1 n1 c1 N) => refShort_any p1 n1 c1 _ W h (Can_dg (by omega) N).1 h41
    have HS2 := fun W (h : IsC W p2 n2 c2 M) => refShort_any p2 n2 c2 _ W h (Can_dg (by omega) M).1 h42
    simp only [V_dg (show 1 < 65536 by omega)] at HS1 HS2
    have HS1' := hid HS1
    have HS2' := hid HS2
    have hqb : N / M < W64 := Nat.lt_of_le_of_lt (Nat.div_le_self _ _) hNb
    have hrb : N % M < W64 := Nat.lt_of_le_of_lt (Nat.mod_le _ _) hNb
    obtain ⟨Q, hQ⟩ : ∃ Q, Q = N / M := ⟨_, rfl⟩
    obtain ⟨R, hR⟩ : ∃ R, R = N % M := ⟨_, rfl⟩
    have eq1 : IntKind.u64.wrap ((N : Int) / (M : Int)) = (Q : Int) := by rw [hQ, ← Int.natCast_ediv]; exact wrap_in _ hqb
    have eq2 : (N : Int) / (M : Int) = (Q : Int) := by rw [hQ]; simp
    have eq3 : (N : Int) % (M : Int) = (R : Int) := by rw [hR]; simp
    have eq4 : (N : Int).tmod (M : Int) = (R : Int) := by rw [hR]; rfl
    rw [← hQ] at hqb
    rw [← hR] at hrb
    have HQR := hid (And.intro hQ hR)
    have eq5 : IntKind.u64.wrap (Q : Int) = (Q : Int) := wrap_in _ hqb
    have eq6 : IntKind.u64.wrap (R : Int) = (R : Int) := wrap_in _ hrb
    have hQN : Q ≤ N := by rw [hQ]; exact Nat.div_le_self _ _
    have hRN : R ≤ N := by rw [hR]; exact Nat.mod_le _ _
    have HQN := hid (And.intro hQN hRN)
    have hM1 : (1 : Int) ≤ (M : Int) := by omega
    have hN0 : (0 : Int) ≤ (N : Int) := by omega
    clear hQ hR HS1 HS2 hQN hRN
    go_wp2_with fail
    refine (HS1'.out _ hA1).mono ?_
    rintro e w' ⟨rfl, rfl⟩
    go_wp2_with fail
    refine (HS2'.out _ hB2).mono ?_
    rintro e w' ⟨rfl, rfl⟩
    go_wp2_with fail
    refine (refOf_c Q hqb _).mono ?_
    rintro e w3 ⟨p3, n3, c3, rfl, hq3, hn3, hg3⟩
    replace hA1 := hA1.keep hg3
    replace hB2 := hB2.keep hg3
    go_wp2_with fail
    refine (HS1'.out _ hA1).mono ?_
    rintro e w' ⟨rfl, rfl⟩
    go_wp2_with fail
    refine (HS2'.out _ hB2).mono ?_
    rintro e w' ⟨rfl, rfl⟩
    go_wp2_with fail
    refine (refOf_c R hrb _).mono ?_
    rintro e w4 ⟨p4, n4, c4, rfl, hq4, hn4, hg4⟩
    go_wp2_with fail
    go_ret3
    exact ⟨p3, n3, c3, p4, n4, c4, rfl, (hq3.keep hg4).congr HQR.out.1, hq4.congr HQR.out.2, hq3.len_le (Nat.lt_of_le_of_lt HQN.out.1 HNL.out), hq4.len_le (Nat.lt_of_le_of_lt HQN.out.2 HNL.out), grown_trans hgw (grown_trans hg3 hg4)⟩
  · have hguard : (¬ ((n1 : Int) ≤ 4)) ∨ ((n1 : Int) ≤ 4 ∧ ¬ ((n2 : Int) ≤ 4)) := by omega
    clear h4
    have hAc := hA1
    obtain ⟨us, hus⟩ : ∃ us, us = dg 65536 N := ⟨_, rfl⟩
    have hcx : Nm.Can 65536 us := by rw [hus]; exact Can_dg (by omega) N
    have hVu : V 65536 us = N := by rw [hus]; exact V_dg (by omega) N
    have ht : IRd w2 .u16 p1 n1 c1 us := by rw [hus]; exact hA1
    have hul : us.length = n1 := ht.len
    have hcap := ht.cap
    have hmax := ht.max
    have HVU := hid hVu
    have HUL := hid hul
    clear hus hAc hVu hul
    have Hstart : Hid (V 65536 (us.drop n1) = 0) := hid (by rw [List.drop_of_length_le (by rw [HUL.out]; exact Nat.le_refl _)]; rfl)
    rcases hguard with hg | ⟨hg, hg'⟩
    all_goals
      go_wp2_with fail
      go_loopw [7, 8, 9] (fun s7 s8 s9 wr => ∃ (k : Nat) (pq : Option Addr) (nq cq : Nat) (qs : List Nat) (pr : Option Addr) (nr cr : Nat), k ≤ n1 ∧ s9 = .int .i64 ((k : Int) - 1) ∧ s7 = .slice pq nq cq ∧ s8 = .slice pr nr cr ∧ nq + k = n1 ∧ IRd wr .u16 pq nq cq qs ∧
          IsC wr pr nr cr (V 65536 (us.drop k) % M) ∧ w2.grownBy wr none ∧ Hid (Dg 65536 qs ∧ V 65536 qs = V 65536 (us.drop k) / M)) (fun _ _ s9 _ => (intOf s9 + 1).toNat)
      case atStart => exact ⟨n1, none, 0, 0, [], none, 0, 0, Nat.le_refl _, rfl, rfl, rfl, by omega, IRd.nil _ _, (IsC.nil _).congr (by rw [Hstart.out]; simp), grown_refl _ _, hid ⟨Dg.nil, by rw [Hstart.out]; simp⟩⟩
      case round =>
        obtain ⟨k, pq, nq, cq, qs, pr, nr, cr, hk, rfl, rfl, rfl, hnk, hq, hr, hgr, HC⟩ := hrel
        by_cases h0 : 0 < k
        · obtain ⟨i, rfl⟩ : ∃ i, k = i + 1 := ⟨k - 1, by omega⟩
          have hil : i < us.length := by rw [HUL.out]; omega
          obtain ⟨b, o, rfl, hc1⟩ := ht.cel i hil
          have hc2 := hgr.cell hc1 (by simp)
          obtain ⟨x, hx⟩ : ∃ x, x = us[i] := ⟨_, rfl⟩
          rw [← hx] at hc2
          have hxb : x < 65536 := by rw [hx]; exact hcx.1.get i hil
          have hdk := V_drop_succ (B := 65536) us i hil
          rw [← hx] at hdk
          have hdd := div_down (W := 65536) (x := M) (y := x) (v := V 65536 (us.drop (i + 1))) (Q := V 65536 (us.drop (i + 1)) / M) hpos rfl
          have hrM : V 65536 (us.drop (i + 1)) % M < M := Nat.mod_lt _ hpos
          obtain ⟨rr, hrr⟩ : ∃ rr, rr = V 65536 (us.drop (i + 1)) % M := ⟨_, rfl⟩
          rw [← hrr] at hr hdd hrM
          have hnr : nr ≤ m := hr.len_le (Nat.lt_trans hrM HML.out)
          have hR' : x + 65536 * rr < 65536 * M := by
            have := Nat.mul_le_mul_left 65536 (show rr + 1 ≤ M from hrM)
            omega
          have HDD := hid (And.intro hdd hdk)
          have HRR := hid hrr
          have HR' := hid hR'
          have hBr := hB2.keep hgr
          have hi0 : (0 : Int) ≤ (i : Int) := by omega
          have hi1 : (i : Int) < (n1 : Int) := by omega
          have hrd : IRd wr .u16 pr nr cr (dg 65536 rr) := hr
          have hnrb : nr ≤ 300000 := by omega
          have hnqb : nq ≤ 300000 := by omega
          clear hc1 hx hdk hdd hrM hrr hR'
          go_wp2_with (with_reducible refine wl_append _ rfl (.tmp 49) (.tmp 50) 23 rfl 35 .u16 2 Tryd.underlying23 info16 wr.heap.size _ _ _ [x] rfl (one_own wr wr.heap.size _ _ _ x rfl (Nat.le_refl _)) _ nr cr _ rfl (IRd.keep hrd (World.grownBy_alloc _ _ none)) (by omega) (by omega) wr (World.grownBy_alloc _ _ none) (Nat.le_refl _) (by simp) ?_; intro p3 c3 w3 ho3 hg3)
          have hN3 : IsN w3 p3 (1 + nr) c3 (x + 65536 * rr) := by
            have := cons_isN ho3.rd hxb (Can_dg (by omega) rr).1
            rwa [V_dg (by omega)] at this
          refine (refNorm_n hN3 (by omega)).mono ?_
          rintro e w4 ⟨p4, n4, c4, rfl, hR4, hn4, hg4⟩
          have hg34 := grown_trans hg3 hg4
          replace hBr := hBr.keep hg34
          replace hq := hq.keep hg34
          replace hgr := grown_trans hgr hg34
          clear hN3 ho3 hg3 hg4 hg34 hr hrd hc2
          obtain ⟨R4, hR4'⟩ : ∃ R4, R4 = x + 65536 * rr := ⟨_, rfl⟩
          obtain ⟨dd, hdd⟩ : ∃ dd, dd = R4 / M := ⟨_, rfl⟩
          have hRlt := HR'.out
          rw [← hR4'] at hR4 hRlt
          have HDG := hid (refDigit_n hR4.isN hBr.isN (by omega) hpos hRlt)
          rw [← hdd] at HDG
          have hddb : dd < 65536 := by rw [hdd]; exact Nat.div_lt_of_lt_mul (by rw [Nat.mul_comm]; exact hRlt)
          have eD : IntKind.u16.wrap (dd : Int) = (dd : Int) := by rw [IntKind.wrap_u16]; omega
          have hsub : M * dd ≤ R4 := by rw [hdd]; exact Nat.mul_div_le _ _
          have hmod : R4 - M * dd = R4 % M := by
            have := Nat.div_add_mod R4 M
            rw [← hdd] at this; omega
          have HX := hid (And.intro hR4' (And.intro hdd (And.intro hsub hmod)))
          clear hR4' hdd hsub hmod hRlt
          go_wp2_with fail
          refine HDG.out.mono ?_
          rintro e w5 ⟨rfl, hg5⟩
          replace hBr := hBr.keep hg5
          replace hq := hq.keep hg5
          replace hR4 := hR4.keep hg5
          replace hgr := grown_trans hgr hg5
          clear HDG hg5
          go_wp2_with (with_reducible refine wl_append _ rfl (.tmp 58) (.tmp 59) 23 rfl 35 .u16 2 Tryd.underlying23 info16 w5.heap.size _ _ _ [dd] rfl (one_own w5 w5.heap.size _ _ _ dd (by first | rfl | exact eD) (Nat.le_refl _)) _ nq cq _ rfl (IRd.keep hq (World.grownBy_alloc _ _ none)) (by omega) (by omega) w5 (World.grownBy_alloc _ _ none) (Nat.le_refl _) (by simp) ?_; intro p6 c6 w6 ho6 hg6)
          replace hBr := hBr.keep hg6
          replace hR4 := hR4.keep hg6
          replace hgr := grown_trans hgr hg6
          have hq6 := ho6.rd
          clear ho6 hg6 hq
          refine (refOf_c dd (by unfold W64; omega) _).mono ?_
          rintro e w7 ⟨p7, n7, c7, rfl, hO, hn7, hg7⟩
          go_wp2_with fail
          refine (refMul_n (hBr.keep hg7).isN hO.isN (by omega) (by omega)).mono ?_
          rintro e w8 ⟨p8, n8, c8, rfl, hM8, hn8, hg8⟩
          have hg78 := grown_trans hg7 hg8
          replace hR4 := hR4.keep hg78
          replace hq6 := hq6.keep hg78
          replace hgr := grown_trans hgr hg78
          go_wp2_with fail
          refine (refSub_n hR4.isN hM8.isN (by omega) HX.out.2.2.1).mono ?_
          rintro e w9 ⟨p9, n9, c9, rfl, hS9, hn9, hg9⟩
          replace hq6 := hq6.keep hg9
          replace hgr := grown_trans hgr hg9
          go_wp2_with fail
          have hx1 := HX.out
          have hx2 := HDD.out
          have e5 : rr * 65536 + x = R4 := by rw [hx1.1]; omega
          rw [e5] at hx2
          refine ⟨⟨i, p6, 1 + nq, c6, [dd] ++ qs, p9, n9, c9, by omega, by congr 1, rfl, rfl, by omega, hq6, hS9.congr ?_, hgr, hid ⟨Dg.cons hddb HC.out.1, ?_⟩⟩, by simp [intOf]⟩
          · rw [hx1.2.2.2, hx2.1.2, hx2.2]
          · rw [List.singleton_append, V_cons, HC.out.2, hx1.2.1, hx2.1.1, hx2.2]
        · obtain rfl : k = 0 := by omega
          have hr' := hr
          rw [List.drop_zero, HVU.out] at hr'
          have hqv := HC.out.2
          rw [List.drop_zero, HVU.out] at hqv
          have hqN : IsN wr pq nq cq (N / M) := ⟨qs, hq, HC.out.1, hqv⟩
          have hrn : nr ≤ n := hr'.len_le (Nat.lt_of_le_of_lt (Nat.mod_le _ _) HNL.out)
          clear hqv hr
          go_wp2_with fail
          refine (refNorm_n hqN (by omega)).mono ?_
          rintro e w4 ⟨p4, n4, c4, rfl, hq4, hn4, hg4⟩
          go_wp2_with fail
          go_ret3
          exact ⟨p4, n4, c4, pr, nr, cr, rfl, hq4, hr'.keep hg4, by omega, hrn, grown_trans hgw (grown_trans hgr hg4)⟩
end Go.Proofs.YtkggoniecmlglaaDoor

set_option linter.unusedVariables false
set_option linter.unusedSimpArgs false
namespace Go.Proofs.YtkggoniecmlglaaDoor
open Go.RowKit Nm

theorem sg_z {w : World} {g : Bool} {p : Option Addr} {n c : Nat} {Z : Int} (h : IsZ w g p n c Z) : sg g Z.natAbs = Z := h.2.symm
theorem sg_not (g : Bool) (N : Nat) : sg (!g) N = -(sg g N) := by cases g <;> simp [sg]

theorem intAdd_any {w : World} {p q : Option Addr} {n c m d : Nat} {ga gb : Bool} {X Y : Int} (hA : IsZ w ga p n c X) (hB : IsZ w gb q m d Y) (hn : n ≤ 400000) (hm : m ≤ 400000) :
    Calls Tryd.prog 30 #[.agg #[.bool ga, .slice p n c], .agg #[.bool gb, .slice q m d]] w (IPost w (X + Y) (n + m + 1)) := by
  have hg3 := grown_trans (grown_trans (World.grownBy_alloc w (.cells #[.bool ga, .slice p n c] 41) none) (World.grownBy_alloc _ (.cells #[.bool gb, .slice q m d] 41) none)) (World.grownBy_alloc _ (.cells #[.bool false, .slice none 0 0] 41) none)
  have HS := hid (intSum_any gb (hA.keep hg3) (hB.keep hg3) hn hm)
  rw [sg_z hB] at HS
  go_enter Tryd.func30, Tryd.ntmps30
  go_wp2_with fail
  refine HS.out.mono ?_
  rintro e w5 ⟨g5, p4, n4, c4, rfl, h5, hn4, hg35⟩
  have hc5 := gcell hg35
  have hf5 := gfree hg35
  have hz5 := hg35.size
  simp at hz5
  go_wp2_with fail
  exact bodyPost_ret (v := .agg #[.bool g5, .slice p4 n4 c4]) (by simp [results, Tryd.results30, go_sem, hc5]) rfl (IPost.close hg3 (third _ _ _ _) (by omega) hg35 h5 hn4)


theorem bits_len {N b : Nat} (h : IsBits N b) : (b + 15) / 16 = (dg 65536 N).length := by
  have hp : ∀ m, 0 < 65536 ^ m := fun m => Nat.pow_pos (by omega)
  rcases h with ⟨rfl, rfl⟩ | ⟨h1, h2, h3⟩
  · rfl
  · have e : ∀ k, (65536 : Nat) ^ k = 2 ^ (16 * k) := fun k => by rw [show (65536 : Nat) = 2 ^ 16 from rfl, ← Nat.pow_mul]
    have hN : 0 < N := Nat.lt_of_lt_of_le (Nat.pow_pos (by omega)) h2
    have hne : dg 65536 N ≠ [] := fun h => by have := V_dg (B := 65536) (by omega) N; rw [h] at this; simp at this; omega
    have l1 := (Can_dg (B := 65536) (by omega) N).low (by omega) hne
    have l2 := (Can_dg (B := 65536) (by omega) N).1.lt
    rw [V_dg (by omega), e] at l1 l2
    have hl : (dg 65536 N).length ≠ 0 := by simpa using hne
    generalize (dg 65536 N).length = L at *
    have k1 : 2 ^ (16 * (L - 1)) < 2 ^ b := by omega
    have k2 : 2 ^ (b - 1) < 2 ^ (16 * L) := by omega
    have := (Nat.pow_lt_pow_iff_right (by omega : 1 < 2)).1 k1
    have := (Nat.pow_lt_pow_iff_right (by omega : 1 < 2)).1 k2
    omega

set_option maxHeartbeats 1000000 in
theorem magnitude_any {w : World} {p : Option Addr} {n c : Nat} {g : Bool} {N : Nat} (hA : IsN w p n c N) (hn : n ≤ 400000) :
    Calls Tryd.prog 66 #[.agg #[.bool g, .slice p n c]] w fun e w' => ∃ p' n' c', e = .returned (.slice p' n' c') ∧ IsC w' p' n' c' N ∧ n' ≤ n ∧ w.grownBy w' none := by
  have hg1 := World.grownBy_alloc w (.cells #[.bool g, .slice p n c] 41) none
  have HB := hid (natBits_n (hA.keep hg1) (by omega))
  obtain ⟨xs, hr, hx, hV⟩ := hA
  have HV := hid hV
  have hx1 := hr.keep hg1
  have hcap := hr.cap
  have hmax := hr.max
  clear hV
  have hlen : (dg 65536 N).length ≤ n := dg_length_le (by omega) (by rw [← HV.out, ← hr.len]; exact hx.lt)
  have HLEN := hid hlen
  clear hlen
  go_enter Tryd.func66, Tryd.ntmps66
  go_wp2_with fail
  refine HB.out.mono ?_
  rintro e w' ⟨b, hb, rfl, HI, rfl⟩
  have hq : (b + 15) / 16 ≤ n := by rw [bits_len HI.out]; exact HLEN.out
  have hqi : ((b : Int) + 16 - 1) / 16 = (((b + 15) / 16 : Nat) : Int) := by omega
  have HQI := hid hqi
  have HQL := hid (bits_len HI.out)
  clear hqi
  obtain ⟨L, hL⟩ : ∃ L, L = (b + 15) / 16 := ⟨_, rfl⟩
  rw [← hL] at HQI HQL hq
  have HL := hid hL
  clear hL
  go_wp2_with (first
    | (at_make; refine wl_make _ rfl _ _ 23 rfl 35 .u16 2 Tryd.underlying23 (by kernel_rfl) _ _ _ _ rfl rfl L HQI.out HQI.out (by omega) (by omega) ?_; intro w1 hr1' hg2; have hc2 := gcell hg2; have hr1 : IRow w1 (w.heap.size + 1) 35 .u16 (List.replicate L 0) := (by simpa using hr1'); clear hr1')
    | (with_reducible refine wl_copy _ rfl (.tmp 13) (.tmp 15) 23 23 rfl 35 Tryd.underlying23 (by kernel_rfl) .u16 _ _ _ _ _ _ rfl rfl (w.heap.size + 1) 0 35 _ xs hr1 (fun _ => rfl) (hx1.keep hg2) (by simp) ?_; intro w2 hr2 hg3))
  go_ret
  have hxl := hr.len
  have e : splice (List.replicate L 0) 0 (xs.take L) = dg 65536 N := by
    have h1 : xs.take L = dg 65536 N := by
      rw [HQL.out, ← HV.out, ← trimR_dg (by omega) hx]
      exact (trimR_eq_take xs).symm
    rw [h1]
    have h2 := HQL.out
    simp [splice, h2]
  rw [e] at hr2
  have hrd := hr2.rd0 (by rw [← HQL.out]; omega)
  rw [← HQL.out] at hrd
  exact ⟨_, L, L, rfl, hrd, by omega, grown_new (grown_trans hg1 hg2) hg3 (fun g e => by cases e; omega)⟩


end Go.Proofs.YtkggoniecmlglaaDoor

set_option linter.unusedVariables false
set_option linter.unusedSimpArgs false
namespace Go.Proofs.YtkggoniecmlglaaDoor
open Go.RowKit Nm

set_option maxHeartbeats 2000000 in
theorem intNorm_any {w : World} {p : Option Addr} {n c : Nat} {g : Bool} {Z : Int} (hA : IsZ w g p n c Z) (hn : n ≤ 400000) :
    Calls Tryd.prog 27 #[.agg #[.bool g, .slice p n c]] w (IPost w Z n) := by
  have hg2 := grown_trans (World.grownBy_alloc w (.cells #[.bool g, .slice p n c] 41) none) (World.grownBy_alloc _ (.cells #[.bool false, .slice none 0 0] 41) none)
  go_enter Tryd.func27, Tryd.ntmps27
  go_wp2_with fail
  go_region_with (first
    | (go_at_call 66; refine (magnitude_any (g := g) ((hA.1.keep hg2).keep (grown_drew _ none)) hn).mono ?_; rintro e w3 ⟨p3, n3, c3, rfl, h3, hn3, hg3⟩; have hc3 := gcell hg3; have hf3 := gfree hg3; have hz3 := hg3.size; simp at hz3)
    | (go_at_call 63; refine (signed_any h3 g).mono ?_; rintro e w4 ⟨g4, rfl, h4, hg4⟩; have hg34 := grown_trans hg3 hg4; clear hc3 hf3 hz3; have hc4 := gcell hg34; have hf4 := gfree hg34; have hz4 := hg34.size; simp at hz4))
  all_goals go_wp2
  all_goals
    rw [sg_z hA] at h4
    exact bodyPost_ret (v := .agg #[.bool g4, .slice p3 n3 c3]) (by simp [results, Tryd.results27, go_sem, hc4]) rfl (IPost.close (grown_trans hg2 (grown_drew _ none)) (second w _ _) (by omega) hg34 h4 hn3)


end Go.Proofs.YtkggoniecmlglaaDoor

set_option linter.unusedVariables false
set_option linter.unusedSimpArgs false
namespace Go.Proofs.YtkggoniecmlglaaDoor
open Go.RowKit Nm


set_option maxHeartbeats 4000000 in
theorem intMul_any {w : World} {p q : Option Addr} {n c m d : Nat} {ga gb : Bool} {X Y : Int} (hA : IsZ w ga p n c X) (hB : IsZ w gb q m d Y) (hn : n ≤ 400000) (hm : m ≤ 400000) :
    Calls Tryd.prog 31 #[.agg #[.bool ga, .slice p n c], .agg #[.bool gb, .slice q m d]] w (IPost w (X * Y) (n + m)) := by
  have hg3 := grown_trans (grown_trans (World.grownBy_alloc w (.cells #[.bool ga, .slice p n c] 41) none) (World.grownBy_alloc _ (.cells #[.bool gb, .slice q m d] 41) none)) (World.grownBy_alloc _ (.cells #[.bool false, .slice none 0 0] 41) none)
  have HM := hid (fun W (h : w.grownBy W none) => natMul_n (hA.1.keep h) (hB.1.keep h) hn hm)
  have hsg : sg (ga != gb) (X.natAbs * Y.natAbs) = X * Y := by
    have h1 := sg_z hA
    have h2 := sg_z hB
    generalize X.natAbs = N at *
    generalize Y.natAbs = M at *
    subst h1; subst h2
    cases ga <;> cases gb <;> simp [sg, Int.neg_mul, Int.mul_neg]
  have HSG := hid hsg
  clear hsg
  go_enter Tryd.func31, Tryd.ntmps31
  go_wp2_with fail
  go_region_held3 (fun w' => w'.cell? ⟨w.heap.size, 0, none⟩ = some (.bool ga) ∧ w'.cell? ⟨w.heap.size, 1, none⟩ = some (.slice p n c) ∧ w'.cell? ⟨w.heap.size + 1, 0, none⟩ = some (.bool gb) ∧ w'.cell? ⟨w.heap.size + 1, 1, none⟩ = some (.slice q m d)) (simp [*, go_sem, World.cell?_alloc_past])
    (first
      | (go_at_call 17; refine (HM.out _ (grown_trans hg3 (grown_drew _ none))).mono ?_; rintro e w3 ⟨p3, n3, c3, rfl, h3, hn3, hg3'⟩; have hc3 := gcell hg3'; have hf3 := gfree hg3'; have hz3 := hg3'.size; simp at hz3)
      | (go_at_call 63; refine (signed_any h3 (ga != gb)).mono ?_; rintro e w4 ⟨g4, rfl, h4, hg4⟩; have hg34 := grown_trans hg3' hg4; clear hc3 hf3 hz3; have hc4 := gcell hg34; have hf4 := gfree hg34; have hz4 := hg34.size; simp at hz4))
  all_goals go_wp2
  all_goals
    rw [HSG.out] at h4
    exact bodyPost_ret (v := .agg #[.bool g4, .slice p3 n3 c3]) (by simp [results, Tryd.results31, go_sem, hc4]) rfl (IPost.close (grown_trans hg3 (grown_drew _ none)) (third w _ _ _) (by omega) hg34 h4 hn3)

end Go.Proofs.YtkggoniecmlglaaDoor

set_option linter.unusedVariables false
set_option linter.unusedSimpArgs false
namespace Go.Proofs.YtkggoniecmlglaaDoor
open Go.RowKit Nm

theorem IsC.pos_len {w : World} {p : Option Addr} {n c N : Nat} (hA : IsC w p n c N) : decide (0 < n) = decide (0 < N) := by
  have hn : n = 0 ↔ N = 0 := by
    rw [← hA.len]
    constructor
    · intro h
      have h2 : dg 65536 N = [] := List.eq_nil_of_length_eq_zero h
      have := V_dg (B := 65536) (by omega) N
      rw [h2] at this; exact this.symm
    · rintro rfl; rfl
  by_cases h : 0 < n
  · rw [decide_eq_true h, decide_eq_true (by omega)]
  · rw [decide_eq_false h, decide_eq_false (by omega)]

theorem IsI.mk {w : World} {p : Option Addr} {n c N : Nat} (hA : IsC w p n c N) (g : Bool) : IsI w (g && decide (0 < n)) p n c (sg g N) :=
  ⟨by rw [sg_abs]; exact hA, by rw [hA.pos_len]; exact (sg_neg g N).symm⟩

set_option maxHeartbeats 2000000 in
theorem rOf_any {w : World} {p : Option Addr} {n c N : Nat} (g : Bool) (hA : IsN w p n c N) (hn : n ≤ 4000000) :
    Calls Tryd.prog 64 #[.bool g, .slice p n c] w (IPost w (sg g N) n) := by
  have hg1 := World.grownBy_alloc w (.cells #[.bool false, .slice none 0 0] 41) none
  cases g
  all_goals
    go_enter Tryd.func64, Tryd.ntmps64
    go_wp2_with fail
    refine (refNorm_n (hA.keep hg1) hn).mono ?_
    rintro e w1 ⟨p1, n1, c1, rfl, h1, hn1, hg⟩
    have hc1 := gcell hg
    have hf1 := gfree hg
    have hz1 := hg.size
    simp at hz1
  · have FIN := hid (IsI.mk h1 false)
    go_wp2_with fail
    exact bodyPost_ret (v := .agg #[.bool false, .slice p1 n1 c1]) (by simp [results, Tryd.results64, go_sem, hc1]) rfl (IPost.close hg1 (heap_alloc_new w _) (by omega) hg FIN.out hn1)
  · have FIN := hid (IsI.mk h1 true)
    go_wp2_with fail
    exact bodyPost_ret (v := .agg #[.bool (decide (0 < n1)), .slice p1 n1 c1]) (by simp [results, Tryd.results64, go_sem, hc1]) rfl (IPost.close hg1 (heap_alloc_new w _) (by omega) hg (by simpa using FIN.out) hn1)

set_option maxHeartbeats 2000000 in
theorem rNorm_any {w : World} {p : Option Addr} {n c : Nat} {g : Bool} {Z : Int} (hA : IsZ w g p n c Z) (hn : n ≤ 400000) :
    Calls Tryd.prog 65 #[.agg #[.bool g, .slice p n c]] w (IPost w Z n) := by
  have hg2 := grown_trans (World.grownBy_alloc w (.cells #[.bool g, .slice p n c] 41) none) (World.grownBy_alloc _ (.cells #[.bool false, .slice none 0 0] 41) none)
  go_enter Tryd.func65, Tryd.ntmps65
  go_wp2_with fail
  refine (rOf_any g (hA.1.keep hg2) (by omega)).mono ?_
  rintro e w1 ⟨g1, p1, n1, c1, rfl, h1, hn1, hg⟩
  rw [sg_z hA] at h1
  have hc1 := gcell hg
  have hf1 := gfree hg
  have hz1 := hg.size
  simp at hz1
  go_wp2_with fail
  exact bodyPost_ret (v := .agg #[.bool g1, .slice p1 n1 c1]) (by simp [results, Tryd.results65, go_sem, hc1]) rfl (IPost.close hg2 (second w _ _) (by omega) hg h1 hn1)


theorem mul_sgn {w : World} {ga gb : Bool} {p q : Option Addr} {n c m d : Nat} {X Y : Int} (hA : IsZ w ga p n c X) (hB : IsZ w gb q m d Y) : sg (ga != gb) (X.natAbs * Y.natAbs) = X * Y := by
  have h1 := sg_z hA
  have h2 := sg_z hB
  generalize X.natAbs = N at *
  generalize Y.natAbs = M at *
  subst h1; subst h2
  cases ga <;> cases gb <;> simp [sg, Int.neg_mul, Int.mul_neg]



end Go.Proofs.YtkggoniecmlglaaDoor

set_option linter.unusedVariables false
set_option linter.unusedSimpArgs false
namespace Go.Proofs.YtkggoniecmlglaaDoor
open Go.RowKit Nm

theorem same2_any {w : World} {g h : Bool} {p q : Option Addr} {n m c d : Nat} {X Y : Int} (hA : IsI w g p n c X) (hB : IsI w h q m d Y) (e : X = Y) :
    Calls Tryd.prog 26 #[.agg #[.bool g, .slice p n c], .agg #[.bool h, .slice q m d]] w fun e w' => e = .returned (.bool true) ∧ w.grownBy w' none := by
  subst e
  have hg2 := grown_trans (World.grownBy_alloc w (.cells #[.bool g, .slice p n c] 41) none) (World.grownBy_alloc _ (.cells #[.bool h, .slice q m d] 41) none)
  have HS := hid (same_c (hA.1.keep hg2) (hB.1.keep hg2) rfl)
  obtain rfl : g = h := by rw [hA.2, hB.2]
  go_enter Tryd.func26, Tryd.ntmps26
  go_wp2_with (go_at_call 13; refine HS.out.mono ?_; rintro e w3 ⟨rfl, hg3⟩)
  go_ret
  exact ⟨rfl, grown_trans hg2 hg3⟩


theorem cmpI_bound (x y : Int) : -1 ≤ cmpI x y ∧ cmpI x y ≤ 1 := by unfold cmpI; split <;> (try split) <;> omega

theorem cmpInner_any {w : World} {g h : Bool} {p q : Option Addr} {n m c d N M : Nat} (hA : IsN w p n c N) (hB : IsN w q m d M) :
    Calls Tryd.prog 68 #[.agg #[.bool g, .slice p n c], .agg #[.bool h, .slice q m d]] w fun e w' => e = .returned (.int .i64 (cmpI (N : Nat) (M : Nat))) ∧ w.grownBy w' none := by
  have hg2 := grown_trans (World.grownBy_alloc w (.cells #[.bool g, .slice p n c] 41) none) (World.grownBy_alloc _ (.cells #[.bool h, .slice q m d] 41) none)
  have HC := hid (natCmp_n (hA.keep hg2) (hB.keep hg2))
  generalize cmpI (N : Nat) (M : Nat) = s at *
  go_enter Tryd.func68, Tryd.ntmps68
  go_wp2_with (go_at_call 18; refine HC.out.mono ?_; rintro e w3 ⟨rfl, hg3⟩)
  go_ret
  exact ⟨rfl, grown_trans hg2 hg3⟩

set_option maxHeartbeats 4000000 in
theorem intCmp_any {w : World} {g h : Bool} {p q : Option Addr} {n m c d : Nat} {X Y : Int} (hA : IsZ w g p n c X) (hB : IsZ w h q m d Y) (hn : n ≤ 900000) (hm : m ≤ 900000) :
    Calls Tryd.prog 32 #[.agg #[.bool g, .slice p n c], .agg #[.bool h, .slice q m d]] w fun e w' => e = .returned (.int .i64 (cmpI X Y)) ∧ w.grownBy w' none := by
  have hg2 := grown_trans (grown_trans (World.grownBy_alloc w (.cells #[.bool g, .slice p n c] 41) none) (World.grownBy_alloc _ (.cells #[.bool h, .slice q m d] 41) none)) (grown_drew _ none)
  have S1 := hid (fun W (h : w.grownBy W none) => intSign_any (hA.keep h) hn)
  have S2 := hid (fun W (h : w.grownBy W none) => intSign_any (hB.keep h) hm)
  have C1 := hid (fun W (k : w.grownBy W none) => cmpInner_any (g := g) (h := h) (hA.keep k).1 (hB.keep k).1)
  have C2 := hid (fun W (k : w.grownBy W none) => cmpInner_any (g := h) (h := g) (hB.keep k).1 (hA.keep k).1)
  have b1 := cmpI_bound X 0
  have b2 := cmpI_bound Y 0
  have hcases : (cmpI X 0 < cmpI Y 0 ∧ cmpI X Y = -1) ∨ (cmpI Y 0 < cmpI X 0 ∧ cmpI X Y = 1) ∨
      (cmpI X 0 = cmpI Y 0 ∧ cmpI X 0 < 0 ∧ cmpI (Y.natAbs : Nat) (X.natAbs : Nat) = cmpI X Y) ∨ (cmpI X 0 = cmpI Y 0 ∧ 0 ≤ cmpI X 0 ∧ cmpI (X.natAbs : Nat) (Y.natAbs : Nat) = cmpI X Y) := by
    unfold cmpI
    rcases Int.lt_trichotomy X 0 with h1 | h1 | h1 <;> rcases Int.lt_trichotomy Y 0 with h2 | h2 | h2 <;> (repeat' split) <;> omega
  generalize cmpI (Y.natAbs : Nat) (X.natAbs : Nat) = r1 at *
  generalize cmpI (X.natAbs : Nat) (Y.natAbs : Nat) = r2 at *
  generalize cmpI X Y = r at *
  generalize cmpI X 0 = s at *
  generalize cmpI Y 0 = t at *
  rcases hcases with ⟨k1, rfl⟩ | ⟨k1, rfl⟩ | ⟨rfl, k2, rfl⟩ | ⟨rfl, k2, rfl⟩
  all_goals
    go_enter Tryd.func32, Tryd.ntmps32
    go_wp2_with fail
    go_region_held3 (fun w' => w'.cell? ⟨w.heap.size, 0, none⟩ = some (.bool g) ∧ w'.cell? ⟨w.heap.size, 1, none⟩ = some (.slice p n c) ∧ w'.cell? ⟨w.heap.size + 1, 0, none⟩ = some (.bool h) ∧ w'.cell? ⟨w.heap.size + 1, 1, none⟩ = some (.slice q m d)) (simp [*, go_sem, World.cell?_alloc_past])
      (first
        | (go_at_call 29; ((with_reducible refine (S1.out _ hg2).mono ?_)); rintro e w3 ⟨rfl, hg3⟩; have hc3 := gcell hg3; have hz3 := hg3.size; simp at hz3)
        | (go_at_call 29; ((with_reducible refine (S2.out _ (grown_trans hg2 hg3)).mono ?_)); rintro e w4 ⟨rfl, hg4⟩; have hg24 := grown_trans hg3 hg4; clear hc3 hz3; have hc4 := gcell hg24; have hz4 := hg24.size; simp at hz4))
  all_goals
    have hg4' := grown_trans hg2 hg24
    go_wp2_with (first
      | (go_at_call 68; ((with_reducible refine (C1.out _ hg4').mono ?_)); rintro e w5 ⟨rfl, hg5⟩)
      | (go_at_call 68; ((with_reducible refine (C2.out _ hg4').mono ?_)); rintro e w5 ⟨rfl, hg5⟩))
    go_ret
    first
      | exact ⟨rfl, grown_trans hg4' hg5⟩
      | exact ⟨rfl, hg4'⟩


end Go.Proofs.YtkggoniecmlglaaDoor

set_option linter.unusedVariables false
set_option linter.unusedSimpArgs false
namespace Go.Proofs.YtkggoniecmlglaaDoor
open Go.RowKit Nm

theorem dg_len4 {N : Nat} (h : N < W64) : (dg 65536 N).length ≤ 4 := dg_length_le (by omega) (by rw [← W64_eq]; exact h)

theorem intOf_neg {z : Int} {N : Nat} (hz : z = -(N : Int)) (hN : 0 < N) (hb : N < W64) (w : World) :
    Calls Tryd.prog 61 #[.int .i64 z] w (IPost w z 4) := by
  have hneg : z < 0 := by omega
  have hg1 := World.grownBy_alloc w (.cells #[.bool false, .slice none 0 0] 41) none
  have HZ : Hid (IntKind.u64.wrap (-IntKind.u64.wrap (-(N : Int))) = (N : Int)) := hid (by
    have : N < 18446744073709551616 := hb
    rw [IntKind.wrap_u64, IntKind.wrap_u64]; omega)
  have HN := hid hN
  go_enter Tryd.func61, Tryd.ntmps61
  go_wp2_with fail
  refine (of_at _ N HZ.out hb _).mono ?_
  rintro e w3 ⟨p3, c3, rfl, h3, hg3⟩
  go_wp2_with fail
  refine (signed_any (N := N) h3 true).mono ?_
  rintro e w4 ⟨g4, rfl, h4, hg4⟩
  have hg34 := grown_trans hg3 hg4
  have hc4 := gcell hg34
  have hf4 := gfree hg34
  have hz4 := hg34.size
  simp at hz4
  go_wp2_with fail
  rw [sg_true, ← hz] at h4
  exact bodyPost_ret (v := .agg #[.bool g4, .slice p3 _ c3]) (by simp [results, Tryd.results61, go_sem, hc4]) rfl (IPost.close hg1 (heap_alloc_new w _) (Nat.le_refl _) hg34 h4 (dg_len4 hb))

theorem intOf_pos {z : Int} {N : Nat} (hz : z = (N : Int)) (hb : N < W64) (w : World) :
    Calls Tryd.prog 61 #[.int .i64 z] w (IPost w z 4) := by
  have hneg : ¬ z < 0 := by omega
  have hg1 := World.grownBy_alloc w (.cells #[.bool false, .slice none 0 0] 41) none
  have hb2 : (N : Int) ≤ 18446744073709551615 := by have : N < 18446744073709551616 := hb; omega
  go_enter Tryd.func61, Tryd.ntmps61
  go_wp2_with fail
  refine (of_at _ N (by first | rfl | (rw [IntKind.wrap_u64]; omega)) hb _).mono ?_
  rintro e w3 ⟨p3, c3, rfl, h3, hg3⟩
  go_wp2_with fail
  refine (signed_any (N := N) h3 false).mono ?_
  rintro e w4 ⟨g4, rfl, h4, hg4⟩
  have hg34 := grown_trans hg3 hg4
  have hc4 := gcell hg34
  have hf4 := gfree hg34
  have hz4 := hg34.size
  simp at hz4
  go_wp2_with fail
  rw [sg_false, ← hz] at h4
  exact bodyPost_ret (v := .agg #[.bool g4, .slice p3 _ c3]) (by simp [results, Tryd.results61, go_sem, hc4]) rfl (IPost.close hg1 (heap_alloc_new w _) (Nat.le_refl _) hg34 h4 (dg_len4 hb))

theorem intOf_any (z : Int) (w : World) (h1 : -9223372036854775808 ≤ z) (h2 : z ≤ 9223372036854775807) : Calls Tryd.prog 61 #[.int .i64 z] w (IPost w z 4) := by
  have hb : z.natAbs < W64 := by show z.natAbs < 18446744073709551616; omega
  by_cases h : z < 0
  · exact intOf_neg (N := z.natAbs) (by omega) (by omega) hb w
  · exact intOf_pos (N := z.natAbs) (by omega) hb w

end Go.Proofs.YtkggoniecmlglaaDoor

set_option linter.unusedVariables false
set_option linter.unusedSimpArgs false
namespace Go.Proofs.YtkggoniecmlglaaDoor
open Go.RowKit Nm

/-- the quotient and the rest of two integers, given by signs and absolute values -/
def qZ (ga gb : Bool) (N M : Nat) : Int := sg (ga != gb) (if ga = true ∧ 0 < N % M then N / M + 1 else N / M)
def rZ (ga : Bool) (N M : Nat) : Nat := if ga = true ∧ 0 < N % M then M - N % M else N % M

/-- what integer.DivMod returns -/
def DmI (w : World) (Q R : Int) (B C : Nat) (e : Ending) (w' : World) : Prop :=
  ∃ g p n c h q m d, e = .returned (.tuple #[.agg #[.bool g, .slice p n c], .agg #[.bool h, .slice q m d], .int .i64 0]) ∧ IsI w' g p n c Q ∧ IsI w' h q m d R ∧ n ≤ B ∧ m ≤ C ∧ w.grownBy w' none

theorem IsI.other {w w' : World} {g : Bool} {p : Option Addr} {n c : Nat} {Z : Int} {G : Nat} {x : Bool} {y : Option Addr} {a b : Nat} {T : TypeId} (h : IsI w g p n c Z) (hb : w.heap[G]? = some (.cells #[.bool x, .slice y a b] T (0, 0))) (hg : w.grownBy w' (some G)) : IsI w' g p n c Z :=
  ⟨IRd.other h.1 hb (fun j z => two_cells x y a b j _ z) hg, h.2⟩

theorem DmI.close {w W w5 : World} {G G2 : Nat} {x x2 : Bool} {y y2 : Option Addr} {a b a2 b2 : Nat} {T T2 : TypeId} {g h : Bool} {p q : Option Addr} {n c m d : Nat} {Q R : Int} {B C : Nat}
    (hg3 : w.grownBy W none) (hW : W.heap[G]? = some (.cells #[.bool x, .slice y a b] T (0, 0))) (hW2 : W.heap[G2]? = some (.cells #[.bool x2, .slice y2 a2 b2] T2 (0, 0))) (hG : w.heap.size ≤ G) (hG2 : w.heap.size ≤ G2) (hne : G2 ≠ G)
    (hg35 : W.grownBy w5 none) (h5 : IsI w5 g p n c Q) (h6 : IsI w5 h q m d R) (hn : n ≤ B) (hm : m ≤ C) :
    DmI w Q R B C (.returned (.tuple #[.agg #[.bool g, .slice p n c], .agg #[.bool h, .slice q m d], .int .i64 0]))
      ((((w5.setCell ⟨G, 0, none⟩ (.bool g)).setCell ⟨G, 1, none⟩ (.slice p n c)).setCell ⟨G2, 0, none⟩ (.bool h)).setCell ⟨G2, 1, none⟩ (.slice q m d)) := by
  have hb : w5.heap[G]? = some (.cells #[.bool x, .slice y a b] T (0, 0)) := (hg35.block G (lt_of_block hW) (by simp)).trans hW
  have hb2 : w5.heap[G2]? = some (.cells #[.bool x2, .slice y2 a2 b2] T2 (0, 0)) := (hg35.block G2 (lt_of_block hW2) (by simp)).trans hW2
  have h56 : w5.grownBy ((w5.setCell ⟨G, 0, none⟩ (.bool g)).setCell ⟨G, 1, none⟩ (.slice p n c)) (some G) := grown_trans (grown_setCell _ _ _) (grown_setCell _ ⟨G, 1, none⟩ _)
  have hb3 := (h56.block G2 (lt_of_block hb2) (by simpa using hne)).trans hb2
  generalize (w5.setCell ⟨G, 0, none⟩ (.bool g)).setCell ⟨G, 1, none⟩ (.slice p n c) = w6 at *
  have h67 : w6.grownBy ((w6.setCell ⟨G2, 0, none⟩ (.bool h)).setCell ⟨G2, 1, none⟩ (.slice q m d)) (some G2) := grown_trans (grown_setCell _ _ _) (grown_setCell _ ⟨G2, 1, none⟩ _)
  exact ⟨g, p, n, c, h, q, m, d, rfl, (h5.other hb h56).other hb3 h67, (h6.other hb h56).other hb3 h67, hn, hm,
    grown_new (grown_new (grown_trans hg3 hg35) h56 (fun g e => by cases e; exact hG)) h67 (fun g e => by cases e; exact hG2)⟩

theorem four_third (w : World) (A B C D : Obj) : ((((w.alloc A).alloc B).alloc C).alloc D).heap[w.heap.size + 2]? = some C := by
  exact (Below.heap_alloc (((w.alloc A).alloc B).alloc C) D (w.heap.size + 2) (by simp)).trans (third w A B C)
theorem four_fourth (w : World) (A B C D : Obj) : ((((w.alloc A).alloc B).alloc C).alloc D).heap[w.heap.size + 3]? = some D := by
  have := heap_alloc_new (((w.alloc A).alloc B).alloc C) D
  simpa using this

theorem dg_div_len {N M n : Nat} (h : N < 65536 ^ n) : (dg 65536 (N / M)).length ≤ n := dg_length_le (by omega) (Nat.lt_of_le_of_lt (Nat.div_le_self _ _) h)
theorem dg_mod_len {N M m : Nat} (h : M < 65536 ^ m) (hM : 0 < M) : (dg 65536 (N % M)).length ≤ m := dg_length_le (by omega) (Nat.lt_trans (Nat.mod_lt _ hM) h)

set_option maxHeartbeats 4000000 in
theorem intDivMod_any {w : World} {ga gb : Bool} {p q : Option Addr} {n m c d N M : Nat} (hA : IsN w p n c N) (hB : IsN w q m d M) (hM : 0 < M) (hn : n ≤ 400000) (hm : m ≤ 400000)
    (hD : ∀ W, w.grownBy W none → Calls Tryd.prog 33 #[.slice p n c, .slice q m d] W (DmPost W N M)) :
    Calls Tryd.prog 28 #[.agg #[.bool ga, .slice p n c], .agg #[.bool gb, .slice q m d]] w (DmI w (qZ ga gb N M) (rZ ga N M) (n + 2) m) := by
  have hg4 := grown_trans (grown_trans (grown_trans (World.grownBy_alloc w (.cells #[.bool ga, .slice p n c] 41) none) (World.grownBy_alloc _ (.cells #[.bool gb, .slice q m d] 41) none)) (World.grownBy_alloc _ (.cells #[.bool false, .slice none 0 0] 41) none)) (World.grownBy_alloc _ (.cells #[.bool false, .slice none 0 0] 41) none)
  have HD := hid (hD _ hg4)
  have l1 := dg_div_len (M := M) hA.lt
  have l2 := dg_mod_len (N := N) hB.lt hM
  have hlast : 0 < (dg 65536 (N % M)).length ↔ 0 < N % M := by
    constructor
    · intro h
      rcases Nat.eq_zero_or_pos (N % M) with h0 | h0
      · rw [h0] at h; exact absurd h (by simp [dg_zero])
      · exact h0
    · intro h
      rcases Nat.eq_zero_or_pos (dg 65536 (N % M)).length with h0 | h0
      · have := V_dg (B := 65536) (by omega) (N % M)
        rw [List.eq_nil_of_length_eq_zero h0] at this; simp at this; omega
      · exact h0
  clear hD
  unfold DmPost at HD
  by_cases hcase : ga = true ∧ 0 < N % M
  · have hq : qZ ga gb N M = sg (ga != gb) (N / M + 1) := by unfold qZ; rw [if_pos hcase]
    have hr : rZ ga N M = M - N % M := by unfold rZ; rw [if_pos hcase]
    rw [hq, hr]
    obtain ⟨rfl, hpos⟩ := hcase
    have hlp := hlast.2 hpos
    rw [show (true != gb) = (!gb) by cases gb <;> rfl]
    have hle : N % M ≤ M := Nat.le_of_lt (Nat.mod_lt _ hM)
    have HLE := hid hle
    clear hq hr hlast hpos hle
    generalize (dg 65536 (N / M)).length = lq at *
    generalize (dg 65536 (N % M)).length = lr at *
    have hlpi : (0 : Int) < (lr : Int) := by omega
    go_enter Tryd.func28, Tryd.ntmps28
    go_wp2_with fail
    refine HD.out.mono ?_
    rintro e w1 ⟨p1, p2, c1, c2, rfl, h1, h2, hg⟩
    have h1 : IsC w1 p1 lq c1 (N / M) := h1
    have h2 : IsC w1 p2 lr c2 (N % M) := h2
    have hB1 := (hB.keep hg4).keep hg
    have hc := gcell hg
    have hf := gfree hg
    have hz := hg.size
    simp at hz
    go_wp2_with fail
    refine (of_any 1 (by decide) _).mono ?_
    rintro e w2 ⟨p3, c3, rfl, h3, kg⟩
    have h3 : IsC w2 p3 (dg 65536 1).length c3 1 := h3
    have l3 : (dg 65536 1).length ≤ 4 := dg_len4 (by decide)
    generalize (dg 65536 1).length = n3 at *
    replace h1 := h1.keep kg; replace h2 := h2.keep kg; replace hB1 := hB1.keep kg; replace hg := grown_trans hg kg; clear kg
    clear hc hf hz
    have hc := gcell hg
    have hf := gfree hg
    have hz := hg.size
    simp at hz
    have l4 : (dg 65536 (N / M + 1)).length ≤ n + 2 := by
      refine dg_length_le (by omega) ?_
      have := hA.lt
      have h5 : N / M ≤ N := Nat.div_le_self _ _
      have h6 : 65536 ^ (n + 2) = 65536 ^ n * 4294967296 := by rw [Nat.pow_add]
      omega
    have HL4 := hid l4
    clear l4
    go_wp2_with fail
    refine (natAdd_n h1.isN h3.isN (by omega) (by omega)).mono ?_
    rintro e w3 ⟨p4, n4, c4, rfl, h4, hn4, kg⟩
    replace hn4 : n4 ≤ n + 2 := by rw [← h4.len]; exact HL4.out
    replace h2 := h2.keep kg; replace hB1 := hB1.keep kg; replace hg := grown_trans hg kg; clear kg
    clear hc hf hz
    have hc := gcell hg
    have hf := gfree hg
    have hz := hg.size
    simp at hz
    go_wp2_with fail
    refine (natSub_n hB1 h2.isN (by omega) (by omega) HLE.out).mono ?_
    rintro e w4 ⟨p5, n5, c5, rfl, h5', hn5, kg⟩
    replace h4 := h4.keep kg; replace hg := grown_trans hg kg; clear kg
    clear hc hf hz
    have hc := gcell hg
    have hf := gfree hg
    have hz := hg.size
    simp at hz
    go_wp2_with fail
    refine (signed_any h4 (!gb)).mono ?_
    rintro e v1 ⟨g5, rfl, h5, kg⟩
    replace h5' := h5'.keep kg; replace hg := grown_trans hg kg; clear kg
    clear hc hf hz
    have hc := gcell hg
    have hf := gfree hg
    have hz := hg.size
    simp at hz
    go_wp2_with fail
    refine (signed_any h5' false).mono ?_
    rintro e v2 ⟨g6, rfl, h6, kg⟩
    replace h5 := h5.keep kg; replace hg := grown_trans hg kg; clear kg
    clear hc hf hz
    have hc := gcell hg
    have hf := gfree hg
    have hz := hg.size
    simp at hz
    go_wp2_with fail
    exact bodyPost_ret (v := .tuple #[.agg #[.bool g5, .slice p4 n4 c4], .agg #[.bool g6, .slice p5 n5 c5], .int .i64 0]) (by simp [results, Tryd.results28, go_sem, hc]) rfl
      (DmI.close hg4 (four_third _ _ _ _ _) (four_fourth _ _ _ _ _) (by omega) (by omega) (by omega) hg h5 h6 (by omega) (by omega))
  · have hq : qZ ga gb N M = sg (ga != gb) (N / M) := by unfold qZ; rw [if_neg hcase]
    have hr : rZ ga N M = N % M := by unfold rZ; rw [if_neg hcase]
    rw [hq, hr]
    have hg' : ga = false ∨ (ga = true ∧ ¬ 0 < (dg 65536 (N % M)).length) := by
      cases ga
      · exact .inl rfl
      · exact .inr ⟨rfl, fun h => hcase ⟨rfl, hlast.1 h⟩⟩
    clear hq hr hlast hcase
    generalize (dg 65536 (N / M)).length = lq at *
    generalize (dg 65536 (N % M)).length = lr at *
    rcases hg' with rfl | ⟨rfl, hlp⟩
    · rw [show (false != gb) = gb by cases gb <;> rfl]
      go_enter Tryd.func28, Tryd.ntmps28
      go_wp2_with fail
      refine HD.out.mono ?_
      rintro e w1 ⟨p1, p2, c1, c2, rfl, h1, h2, hg⟩
      have h1 : IsC w1 p1 lq c1 (N / M) := h1
      have h2 : IsC w1 p2 lr c2 (N % M) := h2
      have hc := gcell hg
      have hf := gfree hg
      have hz := hg.size
      simp at hz
      go_wp2_with fail
      refine (signed_any h1 gb).mono ?_
      rintro e v1 ⟨g5, rfl, h5, kg⟩
      replace h2 := h2.keep kg; replace hg := grown_trans hg kg; clear kg
      clear hc hf hz
      have hc := gcell hg
      have hf := gfree hg
      have hz := hg.size
      simp at hz
      go_wp2_with fail
      refine (signed_any h2 false).mono ?_
      rintro e v2 ⟨g6, rfl, h6, kg⟩
      replace h5 := h5.keep kg; replace hg := grown_trans hg kg; clear kg
      clear hc hf hz
      have hc := gcell hg
      have hf := gfree hg
      have hz := hg.size
      simp at hz
      go_wp2_with fail
      exact bodyPost_ret (v := .tuple #[.agg #[.bool g5, .slice p1 lq c1], .agg #[.bool g6, .slice p2 lr c2], .int .i64 0]) (by simp [results, Tryd.results28, go_sem, hc]) rfl
        (DmI.close hg4 (four_third _ _ _ _ _) (four_fourth _ _ _ _ _) (by omega) (by omega) (by omega) hg h5 h6 (by omega) (by omega))
    · have hlpi : ¬ ((0 : Int) < (lr : Int)) := by omega
      rw [show (true != gb) = (!gb) by cases gb <;> rfl]
      go_enter Tryd.func28, Tryd.ntmps28
      go_wp2_with fail
      refine HD.out.mono ?_
      rintro e w1 ⟨p1, p2, c1, c2, rfl, h1, h2, hg⟩
      have h1 : IsC w1 p1 lq c1 (N / M) := h1
      have h2 : IsC w1 p2 lr c2 (N % M) := h2
      have hc := gcell hg
      have hf := gfree hg
      have hz := hg.size
      simp at hz
      go_wp2_with fail
      refine (signed_any h1 (!gb)).mono ?_
      rintro e v1 ⟨g5, rfl, h5, kg⟩
      replace h2 := h2.keep kg; replace hg := grown_trans hg kg; clear kg
      clear hc hf hz
      have hc := gcell hg
      have hf := gfree hg
      have hz := hg.size
      simp at hz
      go_wp2_with fail
      refine (signed_any h2 false).mono ?_
      rintro e v2 ⟨g6, rfl, h6, kg⟩
      replace h5 := h5.keep kg; replace hg := grown_trans hg kg; clear kg
      clear hc hf hz
      have hc := gcell hg
      have hf := gfree hg
      have hz := hg.size
      simp at hz
      go_wp2_with fail
      exact bodyPost_ret (v := .tuple #[.agg #[.bool g5, .slice p1 lq c1], .agg #[.bool g6, .slice p2 lr c2], .int .i64 0]) (by simp [results, Tryd.results28, go_sem, hc]) rfl
        (DmI.close hg4 (four_third _ _ _ _ _) (four_fourth _ _ _ _ _) (by omega) (by omega) (by omega) hg h5 h6 (by omega) (by omega))
end Go.Proofs.YtkggoniecmlglaaDoor

set_option linter.unusedVariables false
set_option linter.unusedSimpArgs false
namespace Go.Proofs.YtkggoniecmlglaaDoor
open Go.ChangeShapes Go.WideShapes Go.ChangeAt Go.RowKit Nm

theorem readInt : Tryd.prog.readableRec 41 = true := by kernel_rfl
theorem rowInt : 41 < Tryd.prog.types.size := of_decide_eq_true (by kernel_rfl)
theorem cellsInt : Tryd.prog.cellsOf 41 = 2 := by kernel_rfl
theorem cellsNat : Tryd.prog.cellsOf 23 = 1 := by kernel_rfl
theorem cellsBool : Tryd.prog.cellsOf 4 = 1 := by kernel_rfl

section
variable {H : Type} {enc : TypeId × Value → H} {W : World} {v : Value} {d : DataW H} {ps : List MemPlace}
set_option maxRecDepth 100000 in
theorem open_natcs {fuel : Nat} {cs : List Value} {x : DataW H × List MemPlace} (hf : DataW.trod enc Tryd.prog W 0 (fun _ => true) true fuel 23 cs = some x) :
    ∃ a n c xs, cs = [.slice a n c] ∧ IRd W .u16 a n c xs ∧ Dg 65536 xs := by
  rcases open_ints Tryd.underlying23 Tryd.underlying35 cells16 hf with ⟨hcs, hx⟩ | ⟨a, len', cap', zs, hcs, _, hl, hm, hz, hx, hcell, hwz⟩
  · exact ⟨none, 0, 0, [], hcs, IRd.nil W _, Dg.nil⟩
  · simp only [if_true] at hz
    have hb : ∀ z ∈ zs, 0 ≤ z ∧ z ≤ 65535 := fun z hzm => bounds_u16 (hwz z hzm)
    refine ⟨some a, len', cap', (zs.take len').map Int.toNat, hcs, ⟨by simp; omega, hl, by unfold maxLen at hm; omega, fun j hj => ?_⟩, fun x hx' => ?_⟩
    · have hj' : j < len' := by simp at hj; omega
      have hc := hcell j (by omega)
      have hg : zs.getD j 0 = zs[j]'(by omega) := by simp [List.getD, List.getElem?_eq_getElem (show j < zs.length by omega)]
      have hsp := World.cell?_spot (hcell 0 (by omega))
      have ha : ∃ b o, a = ⟨b, o, none⟩ := ⟨a.block, a.off, by
        cases a with
        | mk b o s => simp [Addr.add] at hsp; simp [hsp]⟩
      obtain ⟨b, o, rfl⟩ := ha
      refine ⟨b, o, rfl, ?_⟩
      rw [add_addr] at hc
      rw [hc, hg]
      have := hb _ (List.getElem_mem (show j < zs.length by omega))
      simp only [List.getElem_map, List.getElem_take]
      congr 2; omega
    · obtain ⟨z, hz1, rfl⟩ := List.mem_map.1 hx'
      have := hb z (List.mem_of_mem_take hz1)
      omega

set_option maxRecDepth 100000 in
theorem open_Int (hval : Value.okWide Tryd.prog W .any 0 41 v) (h0 : DataW.Trod enc Tryd.prog W 0 (fun _ => true) true 41 v d ps) :
    ∃ g a n c xs, v = .agg #[.bool g, .slice a n c] ∧ IRd W .u16 a n c xs ∧ Dg 65536 xs := by
  obtain ⟨cs, rfl, hsz⟩ := okWide_struct Tryd.underlying41 hval
  obtain ⟨fuel, hf⟩ := h0
  obtain ⟨y0, y1, k, hx, hl, h0, h1⟩ := trod_struct2 Tryd.underlying41 hf
  rw [cellsInt] at hl
  obtain ⟨b, hb, _⟩ := DataW.trod_bool Tryd.underlying4 h0
  obtain ⟨a, n, c, xs, hs, hr, hd⟩ := open_natcs h1
  rw [cellsBool] at hb
  rw [cellsNat] at hs
  refine ⟨b, a, n, c, xs, ?_, hr, hd⟩
  simp only [Value.cells] at hl hb hs
  obtain ⟨l⟩ := cs
  match l, hl with
  | [u, v], _ =>
    simp at hb hs
    rw [hb, hs]
end
end Go.Proofs.YtkggoniecmlglaaDoor

set_option linter.unusedVariables false
set_option linter.unusedSimpArgs false
namespace Go.Proofs.YtkggoniecmlglaaDoor
open Go.RowKit Nm

set_option maxHeartbeats 1000000 in
theorem small2_any (g c : Nat) (vs : List (Option Addr × Nat × Nat)) (w : World) (hn : vs.length ≤ 1000) (h : ∀ j (hj : j < vs.length), w.cell? ⟨g, j * 2 + 1, none⟩ = some (.slice vs[j].1 vs[j].2.1 vs[j].2.2)) :
    Calls Tryd.prog 20 #[.slice (some ⟨g, 0, none⟩) vs.length c] w fun e w' => e = .returned (.bool (decide (∀ v ∈ vs, v.2.1 ≤ 24))) ∧ w = w' := by
  obtain ⟨n, hnn⟩ : ∃ n, n = vs.length := ⟨_, rfl⟩
  rw [← hnn] at hn ⊢
  have H := hid h
  have HN := hid hnn
  clear h hnn
  go_enter Tryd.func20, Tryd.ntmps20
  go_wp2_with fail
  go_loop [3] (fun i => ∃ k : Nat, k ≤ n ∧ i = .int .i64 k ∧ Hid (∀ j (hj : j < vs.length), j < k → vs[j].2.1 ≤ 24)) (fun i => n - (intOf i).toNat)
  case atStart => exact ⟨0, Nat.zero_le _, rfl, hid fun j _ h => by omega⟩
  case round =>
    obtain ⟨k, hk, rfl, HK⟩ := hrel
    by_cases hlt : k < n
    · have hkv : k < vs.length := by rw [← HN.out]; exact hlt
      have hc := H.out k hkv
      obtain ⟨v, hv⟩ : ∃ v, v = vs[k] := ⟨_, rfl⟩
      rw [← hv] at hc
      obtain ⟨p, m, d⟩ := v
      simp only [] at hc
      have HV := hid hv
      clear hv
      have hki : (k : Int) < (n : Int) := by omega
      by_cases h24 : m ≤ 24
      · have h24' : ¬ ((24 : Int) < (m : Int)) := by omega
        go_wp2
        refine ⟨⟨k + 1, by omega, rfl, hid fun j hj hjk => ?_⟩, by simp [intOf]; omega⟩
        by_cases e : j = k
        · subst e; rw [← HV.out]; exact h24
        · exact HK.out j hj (by omega)
      · have h24' : ((24 : Int) < (m : Int)) := by omega
        go_wp2
        go_ret
        have : ¬ ∀ v ∈ vs, v.2.1 ≤ 24 := fun h => by
          have := h vs[k] (List.getElem_mem hkv)
          rw [← HV.out] at this; exact h24 this
        rw [decide_eq_false this]
        exact ⟨rfl, rfl⟩
    · obtain rfl : k = n := by omega
      go_wp2
      go_ret
      have : ∀ v ∈ vs, v.2.1 ≤ 24 := fun v hv => by
        obtain ⟨j, hj, rfl⟩ := List.getElem_of_mem hv
        exact HK.out j hj (by rw [HN.out]; exact hj)
      rw [decide_eq_true this]
      exact ⟨rfl, rfl⟩

end Go.Proofs.YtkggoniecmlglaaDoor

set_option linter.unusedVariables false
set_option linter.unusedSimpArgs false
namespace Go.Proofs.YtkggoniecmlglaaDoor
open Go.RowKit Nm

theorem natDivMod_smallv {w : World} {p q : Option Addr} {n m c d N M : Nat} (hA : IsC w p n c N) (hB : IsC w q m d M) (hN : N < W64) (hle : M ≤ N) (hM : 0 < M) :
    Calls Tryd.prog 33 #[.slice p n c, .slice q m d] w (DmPost w N M) := by
  have hcn := Can_dg (B := 65536) (by omega) N
  have hcm := Can_dg (B := 65536) (by omega) M
  have t1 : ∀ K, trimR (dg 65536 K) = dg 65536 K := fun K => by rw [trimR_dg (by omega) (Can_dg (by omega) K).1, V_dg (by omega)]
  have := natDivMod_small p q n m c d _ _ w hA hB hcn.1 hcm.1 (by rw [t1]; exact dg_len4 hN) (by
    rw [t1, t1]
    refine Nat.le_of_not_lt fun h => ?_
    have := Can.lt_of_length (by omega) hcn.1 hcm h
    rw [V_dg (by omega), V_dg (by omega)] at this; omega) (by rw [V_dg (by omega)]; exact hM)
  rwa [V_dg (by omega), V_dg (by omega)] at this

theorem lit_IsI (w : World) (g : Bool) (x : Nat) (h0 : 0 < x) (hx : x < 65536) (v : Int) (hv : v = (x : Int)) : IsI (w.alloc (.cells #[.int .u16 v] 35)) g (some ⟨w.heap.size, 0, none⟩) 1 1 (sg g x) := by
  refine ⟨?_, ?_⟩
  · rw [sg_abs]
    have := one_rd w 35 .u16 v x hv
    unfold IsC; rw [dg_small x h0 hx]; exact this
  · have := sg_neg g x
    rw [decide_eq_true h0] at this
    simpa using this.symm

set_option maxHeartbeats 4000000 in
theorem alive2 (w : World) : Calls Tryd.prog 21 #[] w fun e w' => e = .returned (.bool true) ∧ w.grownBy w' none := by
  have O7 := hid (fun W => intOf_neg (z := -7) (N := 7) rfl (by omega) (by decide) W)
  have O2 := hid (fun W => intOf_pos (z := 2) (N := 2) rfl (by decide) W)
  have O3 := hid (fun W => intOf_neg (z := -3) (N := 3) rfl (by omega) (by decide) W)
  have O4 := hid (fun W => intOf_neg (z := -2) (N := 2) rfl (by omega) (by decide) W)
  unfold IPost at O7 O2 O3 O4
  go_enter Tryd.func21, Tryd.ntmps21
  go_wp2_with fail
  refine (O7.out _).mono ?_
  rintro e w1 ⟨g1, p1, n1, c1, rfl, h1, l1, hW⟩
  go_wp2_with fail
  refine (O2.out _).mono ?_
  rintro e w2 ⟨g2, p2, n2, c2, rfl, h2, l2, hg⟩
  replace h1 := h1.keep hg; replace hW := grown_trans hW hg; clear hg
  have hgb1 : g1 = true := by rw [h1.2]; rfl
  have hgb2 : g2 = false := by rw [h2.2]; rfl
  subst hgb1; subst hgb2
  have e1 : qZ true false 7 2 = -4 := by decide
  have e2 : ((rZ true 7 2 : Nat) : Int) = 1 := by decide
  have HD := hid (intDivMod_any (ga := true) (gb := false) (N := 7) (M := 2) h1.z.1 h2.z.1 (by omega) (by omega) (by omega) (fun W hgW => natDivMod_smallv (h1.keep hgW).1 (h2.keep hgW).1 (by decide) (by decide) (by decide)))
  unfold DmI at HD
  rw [e1, e2] at HD
  clear e1 e2
  go_wp2_with fail
  refine HD.out.mono ?_
  rintro e w3 ⟨g3, p3, n3, c3, g4, p4, n4, c4, rfl, h3, h4, l3, l4, hg⟩
  replace hW := grown_trans hW hg; clear hg HD
  have hz := hW.size
  have L1 := lit_IsI ((w3.alloc (.cells #[.bool g3, .slice p3 n3 c3] 41)).alloc (.cells #[.bool g4, .slice p4 n4 c4] 41)) true 4 (by decide) (by decide) 4 rfl
  rw [show ((w3.alloc (.cells #[.bool g3, .slice p3 n3 c3] 41)).alloc (.cells #[.bool g4, .slice p4 n4 c4] 41)).heap.size = w3.heap.size + 1 + 1 from by simp] at L1
  have hgA := grown_trans (grown_trans (World.grownBy_alloc w3 (.cells #[.bool g3, .slice p3 n3 c3] 41) none) (World.grownBy_alloc _ (.cells #[.bool g4, .slice p4 n4 c4] 41) none)) (World.grownBy_alloc _ (.cells #[.int .u16 4] 35) none)
  go_wp2_with fail
  refine (same2_any (h3.keep hgA) L1 (by decide)).mono ?_
  rintro e w5 ⟨rfl, hg⟩
  have hc0 : w5.cell? ⟨w3.heap.size + 1, 0, none⟩ = some (.bool g4) := by
    rw [gcell hg (w3.heap.size + 1) 0 (by simp)]; simp [go_sem, World.cell?_alloc_past]
  have hc1 : w5.cell? ⟨w3.heap.size + 1, 1, none⟩ = some (.slice p4 n4 c4) := by
    rw [gcell hg (w3.heap.size + 1) 1 (by simp)]; simp [go_sem, World.cell?_alloc_past]
  replace hg := grown_trans hgA hg
  have hz5 := hg.size
  replace h4 := h4.keep hg
  replace hW := grown_trans hW hg
  clear hg L1 hgA h3
  go_wp2_with fail
  have L2 := lit_IsI w5 false 1 (by decide) (by decide) 1 rfl
  have hgA := World.grownBy_alloc w5 (.cells #[.int .u16 1] 35) none
  refine (same2_any (h4.keep hgA) L2 (by decide)).mono ?_
  rintro e w6 ⟨rfl, hg⟩
  replace hW := grown_trans hW (grown_trans hgA hg)
  clear hg hgA L2
  go_wp2_with fail
  refine (O3.out _).mono ?_
  rintro e w7 ⟨g5, p5, n5, c5, rfl, h5, l5, hg⟩
  replace hW := grown_trans hW hg; clear hg
  go_wp2_with fail
  refine (O4.out _).mono ?_
  rintro e w8 ⟨g6, p6, n6, c6, rfl, h6, l6, hg⟩
  replace hW := grown_trans hW hg
  replace h5 := h5.keep hg
  clear hg
  go_wp2_with fail
  refine (intCmp_any h5.z h6.z (by omega) (by omega)).mono ?_
  rintro e w9 ⟨rfl, hg⟩
  replace hW := grown_trans hW hg
  rw [show cmpI (-3) (-2) = -1 from by decide]
  go_wp2_with fail
  go_ret
  exact ⟨rfl, hW⟩
end Go.Proofs.YtkggoniecmlglaaDoor
