/-
  Contracts of the reference Sub.
-/
import Derived.Test.YthkgldpcgmnaiaaDoorRefAdd
set_option linter.unusedVariables false
set_option linter.unusedSimpArgs false
namespace Go.Proofs.YthkgldpcgmnaiaaDoor
open Go.RowKit Nm

theorem refCmp_n {p q : Option Addr} {n c m d N M : Nat} {w : World} (hA : IsN w p n c N) (hB : IsN w q m d M) :
    Calls Tryd.prog 54 #[.slice p n c, .slice q m d] w fun e w' => e = .returned (.int .i64 (cmpI (N : Nat) (M : Nat))) ∧ w = w' := by
  obtain ⟨L, h1, h2, rfl⟩ := hA
  obtain ⟨K, k1, k2, rfl⟩ := hB
  exact refCmp_any p q n m c d L K w h1 k1 h2 k2

theorem refSub_e {p q : Option Addr} {n c m d N M : Nat} {w : World} (hA : IsN w p n c N) (hB : IsN w q m d M) (hlt : N < M) :
    Calls Tryd.prog 51 #[.slice p n c, .slice q m d] w fun e w' => e = .returned (.tuple #[.slice none 0 0, .int .i64 2]) ∧ w = w' := by
  have H1 := hid (refCmp_n hA hB)
  have HLT := hid (cmpI_lt hlt)
  clear hlt
  go_enter Tryd.func51, Tryd.ntmps51
  go_wp2_with fail
  refine H1.out.mono ?_
  rw [HLT.out]
  rintro e w' ⟨rfl, rfl⟩
  go_wp2_with fail
  go_ret2
  exact ⟨rfl, rfl⟩

set_option maxHeartbeats 2000000 in
theorem refSub_n {p q : Option Addr} {n c m d N M : Nat} {w : World} (hA : IsN w p n c N) (hB : IsN w q m d M) (hn : n ≤ 3000000) (hle : M ≤ N) :
    Calls Tryd.prog 51 #[.slice p n c, .slice q m d] w fun e w' => ∃ p' n' c', e = .returned (.tuple #[.slice p' n' c', .int .i64 0]) ∧ IsC w' p' n' c' (N - M) ∧ n' ≤ n ∧ w.grownBy w' none := by
  have hc0 : 0 ≤ cmpI (N : Nat) (M : Nat) := by
    rcases Nat.lt_or_ge M N with h1 | h1
    · rw [cmpI_gt h1]; decide
    · rw [show N = M by omega, cmpI_eq]; decide
  have HC0 := hid (refCmp_n hA hB)
  generalize cmpI (N : Nat) (M : Nat) = s at *
  obtain ⟨xs, h1, hx, rfl⟩ := hA
  obtain ⟨ys, k1, hy, rfl⟩ := hB
  have hmax := h1.max
  have hcap := h1.cap
  have HLX := hid h1.len
  have HLY := hid k1.len
  have hxl := hx.lt
  rw [HLX.out] at hxl
  have hyt : vk ys n = V 65536 ys := by
    by_cases hm : ys.length ≤ n
    · exact vk_all ys n hm
    · unfold vk; rw [V_take_eq ys hy n (by omega), Nat.mod_eq_of_lt (by omega)]
  have HYT := hid hyt
  have HXL := hid hxl
  have HLE := hid hle
  have R1 := hid (fun W (h : IRd W .u16 p n c xs) i => refLimb_val p n c xs W h hx i)
  have R2 := hid (fun W (h : IRd W .u16 q m d ys) i => refLimb_val q m d ys W h hy i)
  clear hyt hxl hle
  go_enter Tryd.func51, Tryd.ntmps51
  go_wp2_with fail
  refine HC0.out.mono ?_
  rintro e w' ⟨rfl, rfl⟩
  go_wp2_with fail
  go_loopw [6, 7, 8] (fun s cy i wr => ∃ (k y : Nat) (p' : Option Addr) (c' : Nat) (zs : List Nat), k ≤ n ∧ i = .int .i64 k ∧ cy = .int .i64 y ∧ y ≤ 1 ∧ s = .slice p' k c' ∧ IOwn wr w.heap.size 47 .u16 p' k c' zs ∧ w.grownBy wr none ∧
      Hid (Dg 65536 zs ∧ V 65536 zs + vk ys k = vk xs k + 65536 ^ k * y)) (fun _ _ i _ => n - (intOf i).toNat)
  case atStart => exact ⟨0, 0, none, 0, [], by omega, rfl, rfl, by omega, rfl, IOwn.nil _ _ _ _, grown_refl _ _, hid ⟨Dg.nil, by simp [vk]⟩⟩
  case round =>
    obtain ⟨k, y, p', c', zs, hk, rfl, rfl, hy1, rfl, ho, hgr, HC⟩ := hrel
    by_cases hlt : k < n
    · have hx' := h1.keep hgr
      have hy' := k1.keep hgr
      have b1 := lb_lt hx k
      have b2 := lb_lt hy k
      have L1 := R1.out wr hx' k
      have L2 := R2.out wr hy' k
      have v1 := vk_succ xs k
      have v2 := vk_succ ys k
      generalize lb xs k = x at *
      generalize lb ys k = z at *
      have H1 := hid L1
      have H2 := hid L2
      have HV := hid (And.intro v1 v2)
      clear L1 L2 v1 v2
      have hok : w.heap.size ≤ wr.heap.size := hgr.size
      have t1 : (k : Int) < (n : Int) := by omega
      have fin : ∀ r b, r + (z + y) = x + 65536 * b → r < 65536 → Hid (Dg 65536 (zs ++ [r]) ∧ V 65536 (zs ++ [r]) + vk ys (k + 1) = vk xs (k + 1) + 65536 ^ (k + 1) * b) := by
        intro r b e hr
        refine hid ⟨HC.out.1.append (Dg.cons hr Dg.nil), ?_⟩
        rw [V_snoc, HV.out.1, HV.out.2, ho.1, Nat.pow_succ, Nat.mul_assoc]
        have h2 := HC.out.2
        have h3 : 65536 ^ k * (r + (z + y)) = 65536 ^ k * (x + 65536 * b) := by rw [e]
        rw [Nat.mul_add, Nat.mul_add, Nat.mul_add] at h3
        omega
      have FIN := hid fin
      clear fin
      by_cases hb : x < z + y
      · have t2 : (x : Int) - z - y < 0 := by omega
        go_wp2_with (first
          | (go_at_call 71; (with_reducible refine (H1.out).mono ?_); rintro e w' ⟨rfl, rfl⟩)
          | (go_at_call 71; (with_reducible refine (H2.out).mono ?_); rintro e w' ⟨rfl, rfl⟩)
          | (with_reducible refine wl_append _ rfl (.tmp 33) (.tmp 36) 23 rfl 47 .u16 2 Tryd.underlying23 info16 w.heap.size _ _ _ zs rfl (ho.alloc _) _ 1 1 [x + 65536 - z - y] rfl (one_rd _ _ _ _ _ (by first | rfl | (rw [IntKind.wrap_u16]; omega) | omega)) (by omega) (by omega) w (grown_trans hgr (World.grownBy_alloc _ _ _)) (Nat.le_refl _) (by simp; omega) ?_; intro p2 c2 w2 ho2 hg2))
        exact ⟨⟨k + 1, 1, _, _, _, by omega, rfl, rfl, by omega, rfl, ho2, hg2, FIN.out _ _ (by omega) (by omega)⟩, by simp [intOf]; omega⟩
      · have t2 : ¬ ((x : Int) - z - y < 0) := by omega
        go_wp2_with (first
          | (go_at_call 71; (with_reducible refine (H1.out).mono ?_); rintro e w' ⟨rfl, rfl⟩)
          | (go_at_call 71; (with_reducible refine (H2.out).mono ?_); rintro e w' ⟨rfl, rfl⟩)
          | (with_reducible refine wl_append _ rfl (.tmp 33) (.tmp 36) 23 rfl 47 .u16 2 Tryd.underlying23 info16 w.heap.size _ _ _ zs rfl (ho.alloc _) _ 1 1 [x - z - y] rfl (one_rd _ _ _ _ _ (by first | rfl | (rw [IntKind.wrap_u16]; omega) | omega)) (by omega) (by omega) w (grown_trans hgr (World.grownBy_alloc _ _ _)) (Nat.le_refl _) (by simp; omega) ?_; intro p2 c2 w2 ho2 hg2))
        exact ⟨⟨k + 1, 0, _, _, _, by omega, rfl, rfl, by omega, rfl, ho2, hg2, FIN.out _ _ (by omega) (by omega)⟩, by simp [intOf]; omega⟩
    · obtain rfl : k = n := by omega
      have HN : Hid (IsN wr p' k c' (V 65536 xs - V 65536 ys)) := hid ⟨zs, ho.rd, HC.out.1, by
        have h2 := HC.out.2
        rw [vk_all xs k (by rw [HLX.out]; omega), HYT.out] at h2
        have h3 := HC.out.1.lt
        rw [ho.1] at h3
        have h4 := HLE.out
        have h5 := HXL.out
        have : y = 0 := by
          rcases Nat.eq_zero_or_pos y with h | h
          · exact h
          · have := borrow_place h2 h4 h3 (by omega) (by omega); omega
        subst this
        simp at h2; omega⟩
      go_wp2_with fail
      refine (refNorm_n HN.out (by omega)).mono ?_
      rintro e w' ⟨p2, n2, c2, rfl, hc, hn2, hg⟩
      go_wp2_with fail
      go_ret2
      exact ⟨p2, n2, c2, rfl, hc, by omega, grown_trans hgr hg⟩
end Go.Proofs.YthkgldpcgmnaiaaDoor
