/-
  Contracts of cmp.Compare and natural.Cmp.
-/
import Derived.Test.YthkgldpcgmnaiaaDoorPack
set_option linter.unusedVariables false
set_option linter.unusedSimpArgs false
namespace Go.Proofs.YthkgldpcgmnaiaaDoor
open Go.RowKit Nm

/-- the order of two numbers as -1, 0, 1 -/
def cmpI (x y : Int) : Int := if x < y then -1 else if y < x then 1 else 0

theorem cmpInt_any (x y : Int) (w : World) :
    Calls Tryd.prog 74 #[.int .i64 x, .int .i64 y] w fun e w' => e = .returned (.int .i64 (cmpI x y)) ∧ w = w' := by
  by_cases h : x < y
  · have e : cmpI x y = -1 := if_pos h
    rw [e]
    go_enter Tryd.func74, Tryd.ntmps74
    go_wp2
    go_ret
    exact ⟨rfl, rfl⟩
  · by_cases h2 : y < x
    · have e : cmpI x y = 1 := by unfold cmpI; rw [if_neg h, if_pos h2]
      rw [e]
      go_enter Tryd.func74, Tryd.ntmps74
      go_wp2
      go_ret
      exact ⟨rfl, rfl⟩
    · have e : cmpI x y = 0 := by unfold cmpI; rw [if_neg h, if_neg h2]
      rw [e]
      go_enter Tryd.func74, Tryd.ntmps74
      go_wp2
      go_ret
      exact ⟨rfl, rfl⟩

theorem cmp16_any (x y : Int) (w : World) :
    Calls Tryd.prog 75 #[.int .u16 x, .int .u16 y] w fun e w' => e = .returned (.int .i64 (cmpI x y)) ∧ w = w' := by
  by_cases h : x < y
  · have e : cmpI x y = -1 := if_pos h
    rw [e]
    go_enter Tryd.func75, Tryd.ntmps75
    go_wp2
    go_ret
    exact ⟨rfl, rfl⟩
  · by_cases h2 : y < x
    · have e : cmpI x y = 1 := by unfold cmpI; rw [if_neg h, if_pos h2]
      rw [e]
      go_enter Tryd.func75, Tryd.ntmps75
      go_wp2
      go_ret
      exact ⟨rfl, rfl⟩
    · have e : cmpI x y = 0 := by unfold cmpI; rw [if_neg h, if_neg h2]
      rw [e]
      go_enter Tryd.func75, Tryd.ntmps75
      go_wp2
      go_ret
      exact ⟨rfl, rfl⟩

theorem cmpI_lt {x y : Nat} (h : x < y) : cmpI x y = -1 := if_pos (by omega)
theorem cmpI_gt {x y : Nat} (h : y < x) : cmpI x y = 1 := by unfold cmpI; rw [if_neg (by omega), if_pos (by omega)]
theorem cmpI_eq (x : Int) : cmpI x x = 0 := by unfold cmpI; rw [if_neg (by omega), if_neg (by omega)]
theorem cmpI_congr {x y x' y' : Nat} (h1 : x < y → x' < y') (h2 : y < x → y' < x') (h3 : x = y → x' = y') : cmpI x y = cmpI x' y' := by
  rcases Nat.lt_trichotomy x y with h | h | h
  · rw [cmpI_lt h, cmpI_lt (h1 h)]
  · have := h3 h; subst h; subst this; rw [cmpI_eq, cmpI_eq]
  · rw [cmpI_gt h, cmpI_gt (h2 h)]

set_option maxHeartbeats 1000000 in
theorem natCmp_any (a b : Option Addr) (n m c d : Nat) (xs ys : List Nat) (w : World) (h : IRd w .u16 a n c xs) (k : IRd w .u16 b m d ys) (hx : Dg 65536 xs) (hy : Dg 65536 ys) :
    Calls Tryd.prog 62 #[.slice a n c, .slice b m d] w fun e w' => e = .returned (.int .i64 (cmpI (V 65536 xs : Nat) (V 65536 ys : Nat))) ∧ w.grownBy w' none := by
  have hmax := h.max
  have hcap := h.cap
  have kmax := k.max
  have kcap := k.cap
  have ht := h.take (trimR xs).length (by rw [← h.len]; exact trimR_length_le xs)
  have kt := k.take (trimR ys).length (by rw [← k.len]; exact trimR_length_le ys)
  rw [← trimR_eq_take] at ht kt
  have hcx := Can_trimR hx
  have hcy := Can_trimR hy
  have hvx := V_trimR (B := 65536) xs
  have hvy := V_trimR (B := 65536) ys
  rw [← hvx, ← hvy]
  have T1 := fun W (H : IRd W .u16 a n c xs) => trim16 a n c xs W H
  have T2 := fun W (H : IRd W .u16 b m d ys) => trim16 b m d ys W H
  have hnl : (trimR xs).length ≤ n := by rw [← h.len]; exact trimR_length_le xs
  have hml : (trimR ys).length ≤ m := by rw [← k.len]; exact trimR_length_le ys
  clear hvx hvy
  generalize trimR xs = us at *
  generalize trimR ys = vs at *
  have t1 := T1 w h
  have t2 := T2 w k
  have R1 := hid t1
  have R2 := hid t2
  clear t1 t2 T1 T2 h k
  by_cases hl : us.length = vs.length
  · obtain ⟨l, hl1⟩ : ∃ l, l = us.length := ⟨_, rfl⟩
    rw [← hl, ← hl1] at kt
    rw [← hl1] at ht hnl
    rw [← hl, ← hl1] at hml
    rw [← hl1] at R1
    rw [← hl, ← hl1] at R2
    have HL := hid hl
    have HL1 := hid hl1
    clear hl hl1
    go_enter Tryd.func62, Tryd.ntmps62
    go_wp2_with (first
      | (go_at_call 61; (with_reducible refine (R1.out).mono ?_); rintro e w' ⟨rfl, rfl⟩)
      | (go_at_call 61; (with_reducible refine (R2.out).mono ?_); rintro e w' ⟨rfl, rfl⟩))
    go_loopw [5] (fun i wr => ∃ k : Nat, k ≤ l ∧ i = .int .i64 ((k : Int) - 1) ∧ w.grownBy wr none ∧ Hid (us.drop k = vs.drop k)) (fun i _ => (intOf i + 1).toNat)
    case atStart => exact ⟨l, Nat.le_refl _, rfl, grown_refl _ _, hid (by rw [List.drop_of_length_le (by rw [HL1.out]; exact Nat.le_refl _), List.drop_of_length_le (by rw [← HL.out, HL1.out]; exact Nat.le_refl _)])⟩
    case round =>
      obtain ⟨k, hk, rfl, hgr, HD⟩ := hrel
      by_cases h0 : 0 < k
      · obtain ⟨i, rfl⟩ : ∃ i, k = i + 1 := ⟨k - 1, by omega⟩
        have hiu : i < us.length := by rw [← HL1.out]; omega
        have hiv : i < vs.length := by rw [← HL.out, ← HL1.out]; omega
        obtain ⟨b1, o1, rfl, hc1⟩ := ht.cel i hiu
        obtain ⟨b2, o2, rfl, hc2⟩ := kt.cel i hiv
        have hd1 := hgr.cell hc1 (by simp)
        have hd2 := hgr.cell hc2 (by simp)
        obtain ⟨x, hx'⟩ : ∃ x, x = us[i] := ⟨_, rfl⟩
        obtain ⟨y, hy'⟩ : ∃ y, y = vs[i] := ⟨_, rfl⟩
        rw [← hx'] at hd1
        rw [← hy'] at hd2
        have HX := hid hx'
        have HY := hid hy'
        clear hc1 hc2 hx' hy'
        have hi0 : (0 : Int) ≤ (i : Int) := by omega
        have hil : (i : Int) < (l : Int) := by omega
        by_cases hxy : x = y
        · subst hxy
          have hd3 : us.drop i = vs.drop i := by
            rw [List.drop_eq_getElem_cons hiu, List.drop_eq_getElem_cons hiv, HD.out, ← HX.out, ← HY.out]
          have HD3 := hid hd3
          clear hd3
          have hne : (((x : Int) != (x : Int)) = false) := by simp
          go_wp2
          go_quiet (fail)
          go_wp2
          exact ⟨⟨i, by omega, rfl, grown_trans hgr (grown_drewN _ _ _), HD3⟩, by simp [intOf]⟩
        · have hne : (((x : Int) != (y : Int)) = true) := by simp; omega
          go_wp2
          go_quiet (fail)
          go_wp2
          go_quiet ((go_at_call 75; exact quiet_more (cmp16_any _ _ _)))
          go_wp2
          go_ret
          refine ⟨ret_eq (congrArg _ (cmpI_congr ?_ ?_ ?_)), gdN (gdN hgr _) _⟩
          · intro hlt
            exact cmp_of_top i hcx.1 (by rw [HL.out]) hiu HD.out (by rw [← HX.out, ← HY.out]; exact hlt)
          · intro hlt
            exact cmp_of_top i hcy.1 (by rw [HL.out]) hiv HD.out.symm (by rw [← HX.out, ← HY.out]; exact hlt)
          · intro h; exact absurd h hxy
      · obtain rfl : k = 0 := by omega
        go_wp2
        go_ret
        have : us = vs := by simpa using HD.out
        rw [this, cmpI_eq]
        exact ⟨rfl, hgr⟩
  · have hne : (((us.length : Int) != (vs.length : Int)) = true) := by simp; omega
    go_enter Tryd.func62, Tryd.ntmps62
    go_wp2_with (first
      | (go_at_call 61; (with_reducible refine (R1.out).mono ?_); rintro e w' ⟨rfl, rfl⟩)
      | (go_at_call 61; (with_reducible refine (R2.out).mono ?_); rintro e w' ⟨rfl, rfl⟩)
      | (go_at_call 74; refine (cmpInt_any _ _ _).mono ?_; rintro e w' ⟨rfl, rfl⟩))
    go_ret
    refine ⟨ret_eq (congrArg _ (cmpI_congr ?_ ?_ ?_)), grown_refl _ _⟩
    · exact fun hlt => Can.lt_of_length (by omega) hcx.1 hcy hlt
    · exact fun hlt => Can.lt_of_length (by omega) hcy.1 hcx hlt
    · intro h; exact absurd h hl
end Go.Proofs.YthkgldpcgmnaiaaDoor
