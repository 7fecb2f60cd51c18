/-
  Contracts of natural.Shift and of the reference's Shift: numbers times, and divided by, a power of 2, and 0 out of range.
-/
import Derived.Test.YtfoljdondkdilaaShL
import Derived.Test.YtfoljdondkdilaaRefDiv
import Derived.Deep.RegionHeld3
import Derived.IntWalk
set_option linter.unusedVariables false
set_option linter.unusedSimpArgs false
namespace Go.Proofs.Ytfoljdondkdilaa
open Go.RowKit Nm

section
variable {w : World} {p : Option Addr} {n c N : Nat}
theorem natShift_out (z : Int) (h : z < -1048576 ∨ 1048576 < z) (hz : -9223372036854775808 ≤ z ∧ z ≤ 9223372036854775807) :
    Calls Try.prog 33 #[.slice p n c, .int .i64 z] w fun e w' => e = .returned (.slice none 0 0) ∧ w = w' := by
  rcases h with h | h
  · go_enter Try.func33, Try.ntmps33
    go_wp2
    go_ret
    exact ⟨rfl, rfl⟩
  · have h' : ¬ z < -1048576 := by omega
    go_enter Try.func33, Try.ntmps33
    go_wp2
    go_ret
    exact ⟨rfl, rfl⟩

theorem natShift_up (s : Nat) (hA : IsN w p n c N) (hn : n ≤ 400000) (hs : s ≤ 1048576) :
    Calls Try.prog 33 #[.slice p n c, .int .i64 s] w fun e w' => ∃ p' n' c', e = .returned (.slice p' n' c') ∧ IsC w' p' n' c' (N * 2 ^ s) ∧ n' ≤ n + s / 16 + 1 ∧ w.grownBy w' none := by
  have h1 : ¬ ((s : Int) < -1048576) := by omega
  have h2 : ¬ ((1048576 : Int) < (s : Int)) := by omega
  have h3 : ¬ ((s : Int) < 0) := by omega
  have H := hid (shiftLeft_n (s := s) hA hn (by omega))
  go_enter Try.func33, Try.ntmps33
  go_wp2_with fail
  refine H.out.mono ?_
  rintro e w1 ⟨p1, n1, c1, rfl, hq, hn1, hg⟩
  go_wp2_with fail
  go_ret
  exact ⟨p1, n1, c1, rfl, hq, hn1, hg⟩

theorem natShift_down (s : Nat) (z : Int) (hz : z = -(s : Int)) (hA : IsN w p n c N) (hn : n ≤ 400000) (hs0 : 1 ≤ s) (hs : s ≤ 1048576) :
    Calls Try.prog 33 #[.slice p n c, .int .i64 z] w fun e w' => ∃ p' n' c', e = .returned (.slice p' n' c') ∧ IsC w' p' n' c' (N / 2 ^ s) ∧ n' ≤ n ∧ w.grownBy w' none := by
  have h1 : ¬ (z < -1048576) := by omega
  have h2 : ¬ ((1048576 : Int) < z) := by omega
  have h3 : z < 0 := by omega
  have e1 : -z = (s : Int) := by omega
  have H := hid (shiftRight_n (s := s) hA hn (by omega))
  clear hz
  go_enter Try.func33, Try.ntmps33
  go_wp2_with fail
  refine H.out.mono ?_
  rintro e w1 ⟨p1, n1, c1, rfl, hq, hn1, hg⟩
  go_wp2_with fail
  go_ret
  exact ⟨p1, n1, c1, rfl, hq, hn1, hg⟩

theorem refShift_out (z : Int) (h : z < -1048576 ∨ 1048576 < z) (hz : -9223372036854775808 ≤ z ∧ z ≤ 9223372036854775807) :
    Calls Try.prog 34 #[.slice p n c, .int .i64 z] w fun e w' => e = .returned (.slice none 0 0) ∧ w = w' := by
  rcases h with h | h
  · have h' : ¬ 1048576 < z := by omega
    go_enter Try.func34, Try.ntmps34
    go_wp2
    go_ret
    exact ⟨rfl, rfl⟩
  · go_enter Try.func34, Try.ntmps34
    go_wp2
    go_ret
    exact ⟨rfl, rfl⟩

theorem pow16 (r : Nat) (h : r < 16) : 2 ^ r < 65536 := Nat.lt_of_le_of_lt (Nat.pow_le_pow_right (by omega) (show r ≤ 15 by omega)) (by decide)

set_option maxHeartbeats 1000000 in
theorem refShift_up (s : Nat) (hA : IsN w p n c N) (hn : n ≤ 200000) (hs : s ≤ 1048576) :
    Calls Try.prog 34 #[.slice p n c, .int .i64 s] w fun e w' => ∃ p' n' c', e = .returned (.slice p' n' c') ∧ IsC w' p' n' c' (N * 2 ^ s) ∧ w.grownBy w' none := by
  have h1 : ¬ ((s : Int) < -1048576) := by omega
  have h2 : ¬ ((1048576 : Int) < (s : Int)) := by omega
  have h3 : (0 : Int) ≤ (s : Int) := by omega
  obtain ⟨q, hq⟩ : ∃ q, q = s / 16 := ⟨_, rfl⟩
  obtain ⟨r, hr⟩ : ∃ r, r = s % 16 := ⟨_, rfl⟩
  have hr16 : r < 16 := by omega
  have hqi : (s : Int) / 16 = (q : Int) := by omega
  have hri : (s : Int) % 16 = (r : Int) := by omega
  have hsq := hid (show s = 16 * q + r by omega)
  have hqb : q ≤ 65536 := by omega
  have hr0 : (0 : Int) ≤ (r : Int) := by omega
  obtain ⟨P, hP⟩ : ∃ P, P = 2 ^ r := ⟨_, rfl⟩
  have hPb : P < 65536 := by rw [hP]; exact pow16 r hr16
  have e1 : (2 : Int) ^ r = (P : Int) := by rw [hP]; simp
  have e2 : IntKind.u64.wrap (P : Int) = (P : Int) := wrap_in _ (by omega)
  have HP := hid hP
  clear hq hr hP
  go_enter Try.func34, Try.ntmps34
  go_wp2_with (at_make; refine wl_make _ rfl _ _ 23 rfl 59 .u16 2 Try.underlying23 (by kernel_rfl) _ _ _ _ rfl rfl q (by omega) (by omega) (by omega) (by omega) ?_; intro w1 hr1 hg1)
  refine (refOf_c P (by unfold W64; omega) _).mono ?_
  rintro e w2 ⟨p2, n2, c2, rfl, hO, hn2, hg2⟩
  go_wp2_with fail
  refine (refMul_n (hA.keep (grown_trans hg1 hg2)) hO.isN (by omega) (by omega)).mono ?_
  rintro e w3 ⟨p3, n3, c3, rfl, hM, hn3, hg3⟩
  have hrow := hr1.kept (grown_trans hg2 hg3) (by simp)
  have hgw := grown_trans hg1 (grown_trans hg2 hg3)
  have hown := IOwn.ofRow (base := w.heap.size) hrow (Nat.le_refl _) (by simp; omega)
  simp only [List.length_replicate] at hown
  have hMr : IRd w3 .u16 p3 n3 c3 (dg 65536 (N * P)) := hM
  have hsz := hgw.size
  clear hr1 hrow
  go_wp2_with (with_reducible refine wl_append _ rfl (.tmp 20) (.tmp 26) 23 rfl 59 .u16 2 Try.underlying23 info16 w.heap.size _ _ _ _ rfl hown _ n3 c3 _ rfl hMr (by omega) (by omega) w hgw (Nat.le_refl _) hsz ?_; intro p4 c4 w4 ho4 hg4)
  have hN4 : IsN w4 p4 (q + n3) c4 (N * 2 ^ s) := by
    refine ⟨_, ho4.rd, (Dg.zeros (by omega) _).append (Can_dg (by omega) _).1, ?_⟩
    rw [V_append, V_zeros, V_dg (by omega), List.length_replicate, HP.out, hsq.out, Nat.pow_add, Nat.pow_mul, show (2 : Nat) ^ 16 = 65536 from rfl, Nat.zero_add, Nat.mul_left_comm]
  refine (refNorm_n hN4 (by omega)).mono ?_
  rintro e w5 ⟨p5, n5, c5, rfl, hq5, hn5, hg5⟩
  go_wp2_with fail
  go_ret
  exact ⟨p5, n5, c5, rfl, hq5, grown_trans hg4 hg5⟩

set_option maxHeartbeats 1000000 in
theorem refShift_down (s : Nat) (z : Int) (hz : z = -(s : Int)) (hA : IsN w p n c N) (hn : n ≤ 200000) (hs0 : 1 ≤ s) (hs : s ≤ 1048576) :
    Calls Try.prog 34 #[.slice p n c, .int .i64 z] w fun e w' => ∃ p' n' c', e = .returned (.slice p' n' c') ∧ IsC w' p' n' c' (N / 2 ^ s) ∧ w.grownBy w' none := by
  have h1 : ¬ (z < -1048576) := by omega
  have h2 : ¬ ((1048576 : Int) < z) := by omega
  have h3 : ¬ (0 ≤ z) := by omega
  have e1 : -z = (s : Int) := by omega
  clear hz
  obtain ⟨q, hq⟩ : ∃ q, q = s / 16 := ⟨_, rfl⟩
  obtain ⟨r, hr⟩ : ∃ r, r = s % 16 := ⟨_, rfl⟩
  have hr16 : r < 16 := by omega
  have hqi : (s : Int) / 16 = (q : Int) := by omega
  have hri : (s : Int) % 16 = (r : Int) := by omega
  have hsq := hid (show s = 16 * q + r by omega)
  have hqb : q ≤ 65536 := by omega
  have hr0 : (0 : Int) ≤ (r : Int) := by omega
  obtain ⟨P, hP⟩ : ∃ P, P = 2 ^ r := ⟨_, rfl⟩
  have hPb : P < 65536 := by rw [hP]; exact pow16 r hr16
  have hPp : 0 < P := by rw [hP]; exact Nat.pow_pos (by omega)
  have e2 : (2 : Int) ^ r = (P : Int) := by rw [hP]; simp
  have e3 : IntKind.u64.wrap (P : Int) = (P : Int) := wrap_in _ (by omega)
  have HP := hid hP
  clear hq hr hP
  obtain ⟨us, ht, hd, rfl⟩ := hA
  have hcap := ht.cap
  have hmax := ht.max
  by_cases h0 : n ≤ q
  · have h0' : (n : Int) ≤ (q : Int) := by omega
    have e0 : V 65536 us / 2 ^ s = 0 := by
      refine Nat.div_eq_of_lt (Nat.lt_of_lt_of_le hd.lt ?_)
      rw [ht.len, hsq.out, show (65536 : Nat) = 2 ^ 16 from rfl, ← Nat.pow_mul]
      exact Nat.pow_le_pow_right (by omega) (by omega)
    rw [e0]
    clear e0
    go_enter Try.func34, Try.ntmps34
    go_wp2_with fail
    go_ret
    exact ⟨none, 0, 0, rfl, IsC.nil _, grown_refl _ _⟩
  · have h0' : ¬ (n : Int) ≤ (q : Int) := by omega
    obtain ⟨b, o, rfl, _⟩ := ht.cel 0 (by rw [ht.len]; omega)
    have hcut := ht.cut q n (c - q) (by omega) (by omega) (by omega) (by omega)
    rw [List.take_of_length_le (by rw [List.length_drop, ht.len]; omega)] at hcut
    have hcq : ¬ (c = q) := by omega
    have hqn : (q : Int) ≤ (n : Int) := by omega
    have hq00 : (0 : Int) ≤ (q : Int) := by omega
    have f1 : IntKind.i64.wrap (-z) = (s : Int) := by rw [e1]; exact IntWalk.i64_in _ (by omega)
    have f5 : IntKind.i64.wrap (s : Int) = (s : Int) := IntWalk.i64_in _ (by omega)
    have f2 : (s : Int).tdiv 16 = (q : Int) := by rw [Int.tdiv_eq_ediv_of_nonneg (by omega)]; exact hqi
    have f3 : (s : Int).tmod 16 = (r : Int) := by rw [Int.tmod_eq_emod_of_nonneg (by omega)]; exact hri
    have f4 : IntKind.i64.wrap (q : Int) = (q : Int) := IntWalk.i64_in _ (by omega)
    have hnc : (n : Int) ≤ (c : Int) := by omega
    have hvv : V 65536 us / 2 ^ s = V 65536 (us.drop q) / P := by
      rw [V_drop_eq us hd q (by rw [ht.len]; omega), Nat.div_div_eq_div_mul, hsq.out, Nat.pow_add, HP.out, show (65536 : Nat) = 2 ^ 16 from rfl, ← Nat.pow_mul]
    have hN : IsN w (some ⟨b, o + q, none⟩) (n - q) (c - q) (V 65536 (us.drop q)) := ⟨_, hcut, hd.drop q, rfl⟩
    rw [hvv]
    clear hvv hcut
    generalize V 65536 (us.drop q) = Q at *
    go_enter Try.func34, Try.ntmps34
    go_wp2_with fail
    go_region_held3 (fun w' => True) (trivial) (first
      | (go_at_call 24; (with_reducible refine (refOf_c P (by unfold W64; omega) _).mono ?_); rintro e w2 ⟨p2, n2, c2, rfl, hO, hn2, hg2⟩)
      | (go_at_call 72; (refine (refDivMod_n (hN.keep (grown_trans (grown_drew w none) hg2)) hO.isN (by omega) (by omega) hPp).mono ?_); rintro e w3 ⟨p3, n3, c3, p4, n4, c4, rfl, hq3, hq4, hn3, hn4, hg3⟩))
    all_goals
      go_wp2_with fail
      go_ret
      exact ⟨p3, n3, c3, rfl, hq3, grown_trans (grown_drew w none) (grown_trans hg2 hg3)⟩
end
end Go.Proofs.Ytfoljdondkdilaa
