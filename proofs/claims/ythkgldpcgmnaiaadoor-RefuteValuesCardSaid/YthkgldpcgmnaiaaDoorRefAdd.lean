/-
  Contract of the reference Add.
-/
import Derived.Test.YthkgldpcgmnaiaaDoorVal
set_option linter.unusedVariables false
set_option linter.unusedSimpArgs false
namespace Go.Proofs.YthkgldpcgmnaiaaDoor
open Go.RowKit Nm

/-- the value of the first k limbs, counted behind the end as zeros -/
def vk (xs : List Nat) (k : Nat) : Nat := V 65536 (xs.take k)
theorem vk_succ (xs : List Nat) (k : Nat) : vk xs (k + 1) = vk xs k + 65536 ^ k * lb xs k := by
  unfold vk lb
  by_cases h : k < xs.length
  · rw [V_take_succ xs k h, List.getElem?_eq_getElem h]; rfl
  · rw [List.take_of_length_le (by omega), List.take_of_length_le (by omega), List.getElem?_eq_none (by omega)]; simp
theorem vk_all (xs : List Nat) (k : Nat) (h : xs.length ≤ k) : vk xs k = V 65536 xs := by unfold vk; rw [List.take_of_length_le h]
theorem V_snoc (zs : List Nat) (y : Nat) : V 65536 (zs ++ [y]) = V 65536 zs + 65536 ^ zs.length * y := by simp [V_append]

/-- what a reference's result is: the valid Nat of a number -/
theorem refNorm_n {w : World} {p : Option Addr} {n c N : Nat} (h : IsN w p n c N) (hn : n ≤ 4000000) :
    Calls Tryd.prog 27 #[.slice p n c] w fun e w' => ∃ p' n' c', e = .returned (.slice p' n' c') ∧ IsC w' p' n' c' N ∧ n' ≤ n ∧ w.grownBy w' none := by
  obtain ⟨L, h1, h2, rfl⟩ := h
  refine (refNorm_any p n c L w h1 hn).mono fun e w' ⟨p', c', h, hr, hg⟩ => ⟨p', _, c', h, ?_, ?_, hg⟩
  · unfold IsC; rw [← trimR_dg (by omega) h2]; exact hr
  · rw [← h1.len]; exact trimR_length_le L

set_option maxHeartbeats 2000000 in
theorem refAdd_n {p q : Option Addr} {n c m d N M : Nat} {w : World} (hA : IsN w p n c N) (hB : IsN w q m d M) (hn : n ≤ 900000) (hm : m ≤ 900000) :
    Calls Tryd.prog 56 #[.slice p n c, .slice q m d] w fun e w' => ∃ p' n' c', e = .returned (.slice p' n' c') ∧ IsC w' p' n' c' (N + M) ∧ n' ≤ n + m + 1 ∧ w.grownBy w' none := by
  obtain ⟨xs, h1, hx, rfl⟩ := hA
  obtain ⟨ys, k1, hy, rfl⟩ := hB
  have hmax := h1.max
  have hcap := h1.cap
  have kmax := k1.max
  have kcap := k1.cap
  have HLX := hid h1.len
  have HLY := hid k1.len
  obtain ⟨L, hL⟩ : ∃ L, L = max n m := ⟨_, rfl⟩
  have hL1 : n ≤ L := by omega
  have hL2 : m ≤ L := by omega
  have hL3 : L ≤ 900000 := by omega
  have hL4 : L ≤ n + m := by omega
  have HL := hid hL
  have htot : V 65536 xs + V 65536 ys < 65536 ^ (L + 1) := by
    have e1 := hx.lt
    have e2 := hy.lt
    rw [HLX.out] at e1
    rw [HLY.out] at e2
    have e3 : 65536 ^ n ≤ 65536 ^ L := Nat.pow_le_pow_right (by omega) (by omega)
    have e4 : 65536 ^ m ≤ 65536 ^ L := Nat.pow_le_pow_right (by omega) (by omega)
    rw [Nat.pow_succ]; omega
  have HT := hid htot
  have R1 := hid (fun W (h : IRd W .u16 p n c xs) i => refLimb_val p n c xs W h hx i)
  have R2 := hid (fun W (h : IRd W .u16 q m d ys) i => refLimb_val q m d ys W h hy i)
  clear hL htot
  go_enter Tryd.func56, Tryd.ntmps56
  go_wp2_with fail
  go_loopw [5, 6, 7] (fun s cy i wr => ∃ (k y : Nat) (p' : Option Addr) (c' : Nat) (zs : List Nat), k ≤ L + 1 ∧ i = .int .i64 k ∧ cy = .int .i64 y ∧ y ≤ 1 ∧ s = .slice p' k c' ∧ IOwn wr w.heap.size 47 .u16 p' k c' zs ∧ w.grownBy wr none ∧
      Hid (Dg 65536 zs ∧ V 65536 zs + 65536 ^ k * y = vk xs k + vk ys k)) (fun _ _ i _ => L + 1 - (intOf i).toNat)
  case atStart => exact ⟨0, 0, none, 0, [], by omega, rfl, rfl, by omega, rfl, IOwn.nil _ _ _ _, grown_refl _ _, hid ⟨Dg.nil, by simp [vk]⟩⟩
  case round =>
    obtain ⟨k, y, p', c', zs, hk, rfl, rfl, hy1, rfl, ho, hgr, HC⟩ := hrel
    by_cases hend : L ≤ k ∧ y = 0
    · obtain ⟨he1, rfl⟩ := hend
      have t1 : ¬ ((k : Int) < (n : Int)) := by omega
      have t2 : ¬ ((k : Int) < (m : Int)) := by omega
      have HN : Hid (IsN wr p' k c' (V 65536 xs + V 65536 ys)) := hid ⟨zs, ho.rd, HC.out.1, by
        have := HC.out.2
        rw [vk_all xs k (by rw [HLX.out]; omega), vk_all ys k (by rw [HLY.out]; omega)] at this
        simpa using this⟩
      go_wp2_with fail
      refine (refNorm_n HN.out (by omega)).mono ?_
      rintro e w' ⟨p2, n2, c2, rfl, hc, hn2, hg⟩
      go_wp2_with fail
      go_ret
      exact ⟨p2, n2, c2, rfl, hc, by omega, grown_trans hgr hg⟩
    · have hkL : k < L + 1 := by
        rcases Nat.lt_or_ge k (L + 1) with h | h
        · exact h
        · obtain rfl : k = L + 1 := by omega
          have hyp : y ≠ 0 := fun e => hend ⟨by omega, e⟩
          have := HC.out.2
          rw [vk_all xs _ (by rw [HLX.out]; omega), vk_all ys _ (by rw [HLY.out]; omega)] at this
          have := carry_place this HT.out hyp (by omega)
          omega
      have hx' := h1.keep hgr
      have hy' := k1.keep hgr
      have b1 := lb_lt hx k
      have b2 := lb_lt hy k
      have L1 := R1.out wr hx' k
      have L2 := R2.out wr hy' k
      have v1 := vk_succ xs k
      have v2 := vk_succ ys k
      generalize lb xs k = x at *
      generalize lb ys k = z at *
      have H1 := hid L1
      have H2 := hid L2
      have HV := hid (And.intro v1 v2)
      clear L1 L2 v1 v2
      have hcase : ((k : Int) < (n : Int)) ∨ (¬ ((k : Int) < (n : Int)) ∧ (k : Int) < (m : Int)) ∨ (¬ ((k : Int) < (n : Int)) ∧ ¬ ((k : Int) < (m : Int)) ∧ (0 : Int) < (y : Int)) := by
        have := HL.out
        have : L ≤ k → ¬ y = 0 := fun h e => hend ⟨h, e⟩
        omega
      clear hend
      have hmi : (x + z + y) % 65536 < 65536 := Nat.mod_lt _ (by omega)
      have hok : w.heap.size ≤ wr.heap.size := hgr.size
      have fin : ∀ zs', zs' = zs ++ [(x + z + y) % 65536] → Hid (Dg 65536 zs' ∧ V 65536 zs' + 65536 ^ (k + 1) * ((x + z + y) / 65536) = vk xs (k + 1) + vk ys (k + 1)) := by
        intro zs' e
        subst e
        refine hid ⟨HC.out.1.append (Dg.cons hmi Dg.nil), ?_⟩
        rw [V_snoc, HV.out.1, HV.out.2, ho.1, Nat.pow_succ, Nat.mul_assoc]
        have h2 := HC.out.2
        have h3 : 65536 ^ k * ((x + z + y) % 65536) + 65536 ^ k * (65536 * ((x + z + y) / 65536)) = 65536 ^ k * x + 65536 ^ k * z + 65536 ^ k * y := by
          rw [← Nat.mul_add, Nat.mod_add_div, Nat.mul_add, Nat.mul_add]
        omega
      have FIN := hid fin
      clear fin
      rcases hcase with t1 | ⟨t1, t2⟩ | ⟨t1, t2, t3⟩
      all_goals
        go_wp2_with (first
          | (go_at_call 71; (with_reducible refine (H1.out).mono ?_); rintro e w' ⟨rfl, rfl⟩)
          | (go_at_call 71; (with_reducible refine (H2.out).mono ?_); rintro e w' ⟨rfl, rfl⟩)
          | (with_reducible refine wl_append _ rfl (.tmp 34) (.tmp 38) 23 rfl 47 .u16 2 Tryd.underlying23 info16 w.heap.size _ _ _ zs rfl (ho.alloc _) _ 1 1 [(x + z + y) % 65536] rfl (one_rd _ _ _ _ _ (by first | rfl | (rw [IntKind.wrap_u16]; omega) | omega)) (by omega) (by omega) w (grown_trans hgr (World.grownBy_alloc _ _ _)) (Nat.le_refl _) (by simp; omega) ?_; intro p2 c2 w2 ho2 hg2))
        exact ⟨⟨k + 1, (x + z + y) / 65536, _, _, _, by omega, rfl, by congr 1, by omega, rfl, ho2, hg2, FIN.out _ rfl⟩, by simp [intOf]; omega⟩
end Go.Proofs.YthkgldpcgmnaiaaDoor
