/-
  Contracts of the reference: Cmp, Of.
-/
import Derived.Test.YthkgldpcgmnaiaaDoorRefA
set_option linter.unusedVariables false
set_option linter.unusedSimpArgs false
namespace Go.Proofs.YthkgldpcgmnaiaaDoor
open Go.RowKit Nm

/-- limb i of a list, 0 behind its end -/
def lb (xs : List Nat) (i : Nat) : Nat := xs[i]?.getD 0
theorem lb_lt {xs : List Nat} (h : Dg 65536 xs) (i : Nat) : lb xs i < 65536 := by
  unfold lb
  by_cases hi : i < xs.length
  · rw [List.getElem?_eq_getElem hi]; exact h.get i hi
  · rw [List.getElem?_eq_none (by omega)]; decide
theorem refLimb_val (a : Option Addr) (n c : Nat) (xs : List Nat) (w : World) (h : IRd w .u16 a n c xs) (hd : Dg 65536 xs) (i : Nat) :
    Calls Tryd.prog 71 #[.slice a n c, .int .i64 i] w fun e w' => e = .returned (.int .i64 (lb xs i : Nat)) ∧ w = w' :=
  (refLimb_any a n c xs w h hd i).mono fun e w' ⟨x, h1, _, h3, h4⟩ => ⟨by rw [h1, h3.out]; rfl, h4⟩

theorem lb_pad (xs : List Nat) (L i : Nat) (h : i < L) (hl : xs.length ≤ L) : (xs ++ List.replicate (L - xs.length) 0)[i]? = some (lb xs i) := by
  unfold lb
  by_cases hi : i < xs.length
  · rw [List.getElem?_append_left hi, List.getElem?_eq_getElem hi]; rfl
  · rw [List.getElem?_append_right (by omega), List.getElem?_replicate, if_pos (by omega), List.getElem?_eq_none (by omega)]; rfl

theorem cmp_limbs {xs ys : List Nat} (hx : Dg 65536 xs) (hy : Dg 65536 ys) (L i : Nat) (h1 : xs.length ≤ L) (h2 : ys.length ≤ L) (hi : i < L)
    (ht : ∀ j, i < j → j < L → lb xs j = lb ys j) (hlt : lb xs i < lb ys i) : V 65536 xs < V 65536 ys := by
  have e : ∀ zs : List Nat, V 65536 (zs ++ List.replicate (L - zs.length) 0) = V 65536 zs := fun zs => by simp [V_append, V_zeros]
  have l : ∀ zs : List Nat, zs.length ≤ L → (zs ++ List.replicate (L - zs.length) 0).length = L := fun zs h => by simp; omega
  rw [← e xs, ← e ys]
  have p1 := lb_pad xs L i hi h1
  have p2 := lb_pad ys L i hi h2
  refine cmp_of_top i (hx.append (Dg.zeros (by omega) _)) (by rw [l xs h1, l ys h2]) (by rw [l xs h1]; exact hi) ?_ ?_
  · apply List.ext_getElem?
    intro j
    rw [List.getElem?_drop, List.getElem?_drop]
    by_cases hj : i + 1 + j < L
    · rw [lb_pad xs L _ hj h1, lb_pad ys L _ hj h2, ht _ (by omega) hj]
    · rw [List.getElem?_eq_none (by rw [l xs h1]; omega), List.getElem?_eq_none (by rw [l ys h2]; omega)]
  · rw [List.getElem?_eq_getElem (by rw [l xs h1]; exact hi)] at p1
    rw [List.getElem?_eq_getElem (by rw [l ys h2]; exact hi)] at p2
    simp only [Option.some.injEq] at p1 p2
    rw [p1, p2]; exact hlt

theorem eq_limbs {xs ys : List Nat} (L : Nat) (h1 : xs.length ≤ L) (h2 : ys.length ≤ L) (ht : ∀ j, j < L → lb xs j = lb ys j) : V 65536 xs = V 65536 ys := by
  have e : ∀ zs : List Nat, V 65536 (zs ++ List.replicate (L - zs.length) 0) = V 65536 zs := fun zs => by simp [V_append, V_zeros]
  rw [← e xs, ← e ys]
  congr 1
  apply List.ext_getElem?
  intro j
  by_cases hj : j < L
  · rw [lb_pad xs L _ hj h1, lb_pad ys L _ hj h2, ht _ hj]
  · rw [List.getElem?_eq_none (by simp; omega), List.getElem?_eq_none (by simp; omega)]

set_option maxHeartbeats 1000000 in
theorem refCmp_any (a b : Option Addr) (n m c d : Nat) (xs ys : List Nat) (w : World) (hX : IRd w .u16 a n c xs) (kX : IRd w .u16 b m d ys) (hx : Dg 65536 xs) (hy : Dg 65536 ys) :
    Calls Tryd.prog 54 #[.slice a n c, .slice b m d] w fun e w' => e = .returned (.int .i64 (cmpI (V 65536 xs : Nat) (V 65536 ys : Nat))) ∧ w = w' := by
  have hmax := hX.max
  have hcap := hX.cap
  have kmax := kX.max
  have kcap := kX.cap
  obtain ⟨L, hL⟩ : ∃ L, L = max n m := ⟨_, rfl⟩
  have hLb : L ≤ 9223372036854775807 := by omega
  have hLx : xs.length ≤ L := by rw [hX.len]; omega
  have hLy : ys.length ≤ L := by rw [kX.len]; omega
  go_enter Tryd.func54, Tryd.ntmps54
  have HL := hid hL
  clear hL
  go_wp2_with fail
  all_goals
    go_loop [5] (fun i => ∃ k : Nat, k ≤ L ∧ i = .int .i64 ((k : Int) - 1) ∧ Hid (∀ j, k ≤ j → j < L → lb xs j = lb ys j)) (fun i => (intOf i + 1).toNat)
    case atStart => exact ⟨L, Nat.le_refl _, by have := HL.out; congr 1; omega, hid fun j h1 h2 => by omega⟩
    case round =>
      obtain ⟨k, hk, rfl, HD⟩ := hrel
      by_cases h0 : 0 < k
      · obtain ⟨i, rfl⟩ : ∃ i, k = i + 1 := ⟨k - 1, by omega⟩
        have L1 := refLimb_val a n c xs w hX hx i
        have L2 := refLimb_val b m d ys w kX hy i
        have b1 := lb_lt hx i
        have b2 := lb_lt hy i
        obtain ⟨x, hx'⟩ : ∃ x, x = lb xs i := ⟨_, rfl⟩
        obtain ⟨y, hy'⟩ : ∃ y, y = lb ys i := ⟨_, rfl⟩
        rw [← hx'] at L1 b1
        rw [← hy'] at L2 b2
        have HX := hid hx'
        have HY := hid hy'
        have H1 := hid L1
        have H2 := hid L2
        clear hx' hy' L1 L2
        rcases Nat.lt_trichotomy x y with hlt | heq | hgt
        · have hlt' : (x : Int) < (y : Int) := by omega
          go_wp2_with (first
            | (go_at_call 71; (with_reducible refine (H1.out).mono ?_); rintro e w' ⟨rfl, rfl⟩)
            | (go_at_call 71; (with_reducible refine (H2.out).mono ?_); rintro e w' ⟨rfl, rfl⟩))
          go_ret
          have := cmp_limbs hx hy L i hLx hLy (by omega) (fun j h1 h2 => HD.out j (by omega) h2) (by rw [← HX.out, ← HY.out]; exact hlt)
          rw [cmpI_lt this]
          exact ⟨rfl, rfl⟩
        · subst heq
          go_wp2_with (first
            | (go_at_call 71; (with_reducible refine (H1.out).mono ?_); rintro e w' ⟨rfl, rfl⟩)
            | (go_at_call 71; (with_reducible refine (H2.out).mono ?_); rintro e w' ⟨rfl, rfl⟩))
          refine ⟨⟨i, by omega, rfl, hid fun j h1 h2 => ?_⟩, by simp [intOf]⟩
          by_cases hji : j = i
          · subst hji; rw [← HX.out, ← HY.out]
          · exact HD.out j (by omega) h2
        · have hgt' : (y : Int) < (x : Int) := by omega
          go_wp2_with (first
            | (go_at_call 71; (with_reducible refine (H1.out).mono ?_); rintro e w' ⟨rfl, rfl⟩)
            | (go_at_call 71; (with_reducible refine (H2.out).mono ?_); rintro e w' ⟨rfl, rfl⟩))
          go_ret
          have := cmp_limbs hy hx L i hLy hLx (by omega) (fun j h1 h2 => (HD.out j (by omega) h2).symm) (by rw [← HX.out, ← HY.out]; exact hgt)
          rw [cmpI_gt this]
          exact ⟨rfl, rfl⟩
      · obtain rfl : k = 0 := by omega
        go_wp2
        go_ret
        rw [eq_limbs L hLx hLy (fun j hj => HD.out j (Nat.zero_le _) hj), cmpI_eq]
        exact ⟨rfl, rfl⟩

set_option maxHeartbeats 1000000 in
theorem refOf_any (x : Nat) (hx : x < W64) (w : World) :
    Calls Tryd.prog 15 #[.int .u64 x] w fun e w' => ∃ a' c', e = .returned (.slice a' (dg 65536 x).length c') ∧ IRd w' .u16 a' (dg 65536 x).length c' (dg 65536 x) ∧ w.grownBy w' none := by
  have hlen : ∀ r ≤ x, (dg 65536 r).length ≤ 4 := fun r hr => dg_length_le (by omega) (by rw [← W64_eq]; omega)
  have HLEN := hid hlen
  clear hlen
  go_enter Tryd.func15, Tryd.ntmps15
  go_wp2
  go_loopw [0, 3] (fun t s wr => ∃ (r : Nat) (p : Option Addr) (m c : Nat) (zs : List Nat), t = .int .u64 r ∧ s = .slice p m c ∧ r ≤ x ∧ m ≤ 4 ∧ IOwn wr w.heap.size 47 .u16 p m c zs ∧ w.grownBy wr none ∧ Hid (zs ++ dg 65536 r = dg 65536 x)) (fun t _ _ => (intOf t).toNat)
  case atStart => exact ⟨x, none, 0, 0, [], rfl, rfl, Nat.le_refl _, by omega, IOwn.nil _ _ _ _, grown_refl _ _, hid (by simp)⟩
  case round =>
    obtain ⟨r, p, m, c, zs, rfl, rfl, hr, hm, ho, hgr, HD⟩ := hrel
    by_cases h0 : 0 < r
    · have h0' : (0 : Int) < (r : Int) := by omega
      have hm3 : m ≤ 3 := by
        have h1 := congrArg List.length HD.out
        rw [dg_step r h0] at h1
        have h2 := HLEN.out x (Nat.le_refl _)
        have := ho.1
        simp at h1; omega
      have hmi : r % 65536 < 65536 := Nat.mod_lt _ (by omega)
      have hrb : (r : Int) ≤ 18446744073709551615 := by have : x < 18446744073709551616 := hx; omega
      go_wp2_with (with_reducible refine wl_append _ rfl (.tmp 6) (.tmp 10) 23 rfl 47 .u16 2 Tryd.underlying23 info16 w.heap.size _ _ _ zs rfl (ho.alloc _) _ 1 1 [r % 65536] rfl (one_rd _ _ _ _ _ (by first | rfl | (rw [IntKind.wrap_u16]; omega) | omega)) (by omega) (by omega) w (grown_trans hgr (World.grownBy_alloc _ _ _)) (Nat.le_refl _) (by have := hgr.size; simp; omega) ?_; intro p' c2 w2 ho2 hg2)
      refine ⟨⟨r / 65536, _, _, _, _, by congr 1, rfl, by omega, by omega, ho2, hg2, hid ?_⟩, by simp [intOf]; omega⟩
      rw [List.append_assoc, List.singleton_append, ← dg_step r h0]
      exact HD.out
    · obtain rfl : r = 0 := by omega
      go_wp2
      go_ret
      have e : zs = dg 65536 x := by have := HD.out; rw [dg_zero, List.append_nil] at this; exact this
      have hl := ho.1
      subst hl
      rw [← e]
      exact ⟨p, c, rfl, ho.rd, hgr⟩
end Go.Proofs.YthkgldpcgmnaiaaDoor
