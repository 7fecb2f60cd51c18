/-
  Contracts of natural.shiftLeft, natural.shiftRight and natural.Shift: numbers times, and divided by, a power of 2.
-/
import Derived.Test.YtkggoniecmlglaaDoorVal
import Derived.Test.YtkggoniecmlglaaDoorDivA
import Derived.Laws.BitsAllLaws
set_option linter.unusedVariables false
set_option linter.unusedSimpArgs false
namespace Go.Proofs.YtkggoniecmlglaaDoor
open Go.RowKit Nm

theorem cut16 (p : Nat) (hp : p < 16) : 2 ^ p * 2 ^ (16 - p) = 65536 := by rw [← Nat.pow_add, show p + (16 - p) = 16 by omega]

theorem or16 (a x p : Nat) (hp : p < 16) (ha : a < 2 ^ p) : bits .or .u16 (a : Int) ((x * 2 ^ p % 65536 : Nat) : Int) = ((a + x * 2 ^ p % 65536 : Nat) : Int) ∧ a + x * 2 ^ p % 65536 < 65536 := by
  have hlow := shl_low (x := x) (cut16 p hp)
  have hX : x * 2 ^ p % 65536 < 65536 := Nat.mod_lt _ (by decide)
  have hj := nat_join p (x * 2 ^ p % 65536) a (by rw [hlow]; exact Nat.mul_mod_left _ _) ha
  have hb : a + x * 2 ^ p % 65536 < 65536 := by
    have h1 : x % 2 ^ (16 - p) < 2 ^ (16 - p) := Nat.mod_lt _ (Nat.pow_pos (by omega))
    have h2 := Nat.mul_le_mul_right (2 ^ p) (show x % 2 ^ (16 - p) + 1 ≤ 2 ^ (16 - p) from h1)
    rw [Nat.add_mul, Nat.one_mul, Nat.mul_comm (2 ^ (16 - p)), cut16 p hp, ← hlow] at h2
    omega
  refine ⟨?_, hb⟩
  rw [u16_or_nat _ _ (by omega) hX, Nat.or_comm, hj, Nat.add_comm]

set_option maxHeartbeats 1000000 in
theorem shiftLeft_n {w : World} {p : Option Addr} {n c N s : Nat} (hA : IsN w p n c N) (hn : n ≤ 400000) (hs : s ≤ 4000000) :
    Calls Tryd.prog 54 #[.slice p n c, .int .i64 s] w fun e w' => ∃ p' n' c', e = .returned (.slice p' n' c') ∧ IsC w' p' n' c' (N * 2 ^ s) ∧ n' ≤ n + s / 16 + 1 ∧ w.grownBy w' none := by
  obtain ⟨L, h1, h2, rfl⟩ := hA
  have ht := h1.take (trimR L).length (by rw [← h1.len]; exact trimR_length_le L)
  rw [← trimR_eq_take] at ht
  have hcx := Can_trimR h2
  have hv := V_trimR (B := 65536) L
  have hl : (trimR L).length ≤ n := by rw [← h1.len]; exact trimR_length_le L
  have R1 := hid (trim16 p n c L w h1)
  rw [← hv]
  generalize trimR L = us at *
  clear hv h1 h2
  have hmax := ht.max
  have hcap := ht.cap
  by_cases h0 : us.length = 0
  · have hus : us = [] := List.eq_nil_of_length_eq_zero h0
    rw [h0] at R1
    subst hus
    rw [V_nil, Nat.zero_mul]
    clear h0
    go_enter Tryd.func54, Tryd.ntmps54
    go_wp2_with (go_at_call 42; (with_reducible refine (R1.out).mono ?_); rintro e w' ⟨rfl, rfl⟩)
    go_ret
    exact ⟨none, 0, 0, rfl, IsC.nil _, by omega, grown_refl _ _⟩
  · obtain ⟨q, hq⟩ : ∃ q, q = s / 16 := ⟨_, rfl⟩
    obtain ⟨r, hr⟩ : ∃ r, r = s % 16 := ⟨_, rfl⟩
    obtain ⟨m, hm⟩ : ∃ m, m = us.length := ⟨_, rfl⟩
    have hr16 : r < 16 := by omega
    have hsq : s = 16 * q + r := by omega
    have hqi : (s : Int) / 16 = (q : Int) := by omega
    have hri : (s : Int) % 16 = (r : Int) := by omega
    have e0 : (((us.length : Int) == 0) = false) := beq_eq_false_iff_ne.2 (by omega)
    rw [← hm] at R1 ht e0 hl h0
    rw [← hq]
    have HM := hid hm
    have HSQ := hid hsq
    obtain ⟨g, hg⟩ : ∃ g, g = w.heap.size := ⟨_, rfl⟩
    have hqb : q ≤ 250000 := by omega
    clear hq hr hsq hm
    go_enter Tryd.func54, Tryd.ntmps54
    go_wp2_with (first
      | (go_at_call 42; (with_reducible refine (R1.out).mono ?_); rintro e w' ⟨rfl, rfl⟩)
      | (at_make; refine wl_make _ rfl _ _ 23 rfl 35 .u16 2 Tryd.underlying23 (by kernel_rfl) _ _ _ _ rfl rfl (q + m + 1) (by omega) (by omega) (by omega) (by omega) ?_; intro w1 hr1 hg1))
    rw [← hg] at hr1 ⊢
    have HG := hid hg
    clear hg hqi hri R1
    go_loopw [28] (fun i wr => ∃ k : Nat, ∃ cu : List Nat, k ≤ m ∧ i = .int .i64 k ∧ IRow wr g 35 .u16 cu ∧ w1.grownBy wr (some g) ∧
        Hid (cu.length = q + m + 1 ∧ Dg 65536 cu ∧ V 65536 cu = 65536 ^ q * V 65536 (us.take k) * 2 ^ r ∧ (∀ j, q + k < j → j < q + m + 1 → cu[j]? = some 0) ∧ ∀ t, cu[q + k]? = some t → t < 2 ^ r)) (fun i _ => m - (intOf i).toNat)
    case atStart => exact ⟨0, _, Nat.zero_le _, rfl, hr1, grown_refl _ _, hid ⟨by simp, Dg.zeros (by decide) _, by rw [V_zeros]; simp, fun j h1 h2 => by simp [h2], fun t ht => by
      have : t = 0 := by
        rw [List.getElem?_replicate] at ht
        split at ht <;> simp at ht
        exact ht.symm
      rw [this]; exact Nat.pow_pos (by omega)⟩⟩
    case round =>
      obtain ⟨k, cu, hk, rfl, hr, hgr, HC⟩ := hrel
      by_cases hlt : k < m
      · have hku : k < us.length := by rw [← HM.out]; exact hlt
        obtain ⟨b', o', rfl, hc1⟩ := ht.cel k hku
        have hbl := World.block_lt_of_cell? _ _ hc1
        have hc2 := hgr.cell (hg1.cell hc1 (by simp)) (by intro e; have := HG.out; simp at e hbl; omega)
        obtain ⟨x, hx⟩ : ∃ x, x = us[k] := ⟨_, rfl⟩
        rw [← hx] at hc2
        have hxb : x < 65536 := by rw [hx]; exact hcx.1.get _ hku
        have hv := V_take_succ (B := 65536) us k hku
        rw [← hx] at hv
        have hcl : q + k < cu.length := by rw [HC.out.1]; omega
        have hcl1 : q + k + 1 < cu.length := by rw [HC.out.1]; omega
        have hcc := hr.cell (q + k) hcl
        have hfr := hr.free (q + k)
        have hcc1 := hr.cell (q + k + 1) hcl1
        have hfr1 := hr.free (q + k + 1)
        obtain ⟨t, ht'⟩ : ∃ t, t = cu[q + k] := ⟨_, rfl⟩
        rw [← ht'] at hcc
        have htb : t < 2 ^ r := HC.out.2.2.2.2 t (by rw [List.getElem?_eq_getElem hcl, ht'])
        have h0 : cu[q + k + 1] = 0 := by
          have := HC.out.2.2.2.1 (q + k + 1) (by omega) (by omega)
          rw [List.getElem?_eq_getElem hcl1] at this
          simpa using this
        rw [h0] at hcc1
        have hup := up_step (W := 65536) (S := 2 ^ r) (T := 2 ^ (16 - r)) (by decide) (cut16 r hr16) (Nat.pow_pos (by omega)) (Nat.pow_pos (by omega)) cu (q + k) x _ hcl1 hxb h0 HC.out.2.2.1
        have hos := or16 t x r hr16 htb
        have ev : 65536 ^ q * V 65536 (us.take k) + 65536 ^ (q + k) * x = 65536 ^ q * V 65536 (us.take (k + 1)) := by
          rw [hv, Nat.mul_add, Nat.pow_add, Nat.mul_assoc]
        rw [← ht', ev] at hup
        obtain ⟨X, hX⟩ : ∃ X, X = x * 2 ^ r := ⟨_, rfl⟩
        have hXb : X < 4294967296 := by
          rw [hX]
          have h2 : 2 ^ r ≤ 2 ^ 15 := Nat.pow_le_pow_right (by omega) (by omega)
          have := Nat.mul_le_mul (show x ≤ 65535 by omega) h2
          omega
        have eZ : X / 65536 = x / 2 ^ (16 - r) := by
          rw [hX, ← cut16 r hr16, Nat.mul_comm (2 ^ r)]
          exact Nat.mul_div_mul_right x (2 ^ (16 - r)) (Nat.pow_pos (by omega))
        rw [← hX] at hos
        rw [← hX, ← eZ] at hup
        obtain ⟨Y, hY⟩ : ∃ Y, Y = X % 65536 := ⟨_, rfl⟩
        obtain ⟨U, hU⟩ : ∃ U, U = t + Y := ⟨_, rfl⟩
        obtain ⟨Z, hZ⟩ : ∃ Z, Z = X / 65536 := ⟨_, rfl⟩
        rw [← hY, ← hU] at hos
        rw [← hY, ← hU, ← hZ] at hup
        have hZb : Z < 65536 := by omega
        have eX : IntKind.u32.wrap ((x : Int) * 2 ^ r) = (X : Int) := by
          rw [show ((x : Int) * 2 ^ r) = ((x * 2 ^ r : Nat) : Int) by simp, ← hX, IntKind.wrap_u32]; omega
        have eX2 : (x : Int) * 2 ^ r = (X : Int) := by rw [hX]; simp
        have eXm : (X : Int) % 4294967296 = (X : Int) := by omega
        have eY : IntKind.u16.wrap (X : Int) = (Y : Int) := by rw [IntKind.wrap_u16]; omega
        have eO := hos.1
        have eZi : (X : Int) / 65536 = (Z : Int) := by omega
        have eZw : IntKind.u16.wrap (Z : Int) = (Z : Int) := by rw [IntKind.wrap_u16]; omega
        have HUP := hid hup
        have HUb := hid hos.2
        have HZb := hid hZb
        have hn0 : (0 : Int) ≤ (r : Int) := by omega
        clear hx hv ht' htb h0 hup hos hX hZ hY hU hZb hc1 ev eZ hXb
        go_wp2_with fail
        refine ⟨⟨k + 1, (cu.set (q + k) U).set (q + k + 1) Z, by omega, rfl, ?_, ?_, hid ⟨by simpa using HC.out.1, (HC.out.2.1.set _ _ HUb.out).set _ _ HZb.out, HUP.out.1, fun j h1 h2 => ?_, fun t ht => ?_⟩⟩, by simp [intOf]; omega⟩
        · exact IRow.setv (IRow.setv hr (q + k) _ U rfl) (q + k + 1) _ Z rfl
        · exact grown_trans (grown_trans hgr (grown_setCell _ _ _)) (grown_setCell _ _ _)
        · rw [List.getElem?_set_ne (by omega), List.getElem?_set_ne (by omega)]
          exact HC.out.2.2.2.1 j (by omega) h2
        · rw [← Nat.add_assoc, List.getElem?_set_self (by simpa using hcl1)] at ht
          rw [← Option.some.inj ht]; exact HUP.out.2
      · obtain rfl : k = m := by omega
        have hcl : cu.length = q + k + 1 := HC.out.1
        have hrd := hr.rd0 (by omega)
        rw [hcl] at hrd
        have HR := hid (trim16 _ _ _ cu _ hrd)
        have hrd2 := hid (hrd.take (trimR cu).length (by rw [← hcl]; exact trimR_length_le cu))
        have e1 := HC.out.2.2.1
        rw [List.take_of_length_le (by rw [← HM.out]; exact Nat.le_refl _)] at e1
        have e2 : trimR cu = dg 65536 (V 65536 us * 2 ^ s) := by
          rw [trimR_dg (by omega) HC.out.2.1, e1, HSQ.out, Nat.pow_add, Nat.pow_mul]
          congr 1
          rw [show (2 : Nat) ^ 16 = 65536 from rfl, Nat.mul_comm (65536 ^ q), Nat.mul_assoc]
        have e3 : (trimR cu).length ≤ n + q + 1 := by
          have := trimR_length_le cu
          omega
        have HE := hid (And.intro e2 e3)
        clear hrd hcl e1 e2 e3
        go_wp2_with (go_at_call 42; (with_reducible refine (HR.out).mono ?_); rintro e w' ⟨rfl, rfl⟩)
        go_ret
        have hd := hrd2.out
        rw [← trimR_eq_take] at hd
        refine ⟨_, _, _, rfl, ?_, HE.out.2, grown_new hg1 hgr (fun g' e' => by cases e'; rw [HG.out]; exact Nat.le_refl _)⟩
        unfold IsC
        rw [← HE.out.1]
        exact hd

set_option maxHeartbeats 1000000 in
theorem shiftRight_n {w : World} {p : Option Addr} {n c N s : Nat} (hA : IsN w p n c N) (hn : n ≤ 400000) (hs : s ≤ 4000000000) :
    Calls Tryd.prog 53 #[.slice p n c, .int .i64 s] w fun e w' => ∃ p' n' c', e = .returned (.slice p' n' c') ∧ IsC w' p' n' c' (N / 2 ^ s) ∧ n' ≤ n ∧ w.grownBy w' none := by
  obtain ⟨L, h1, h2, rfl⟩ := hA
  have ht := h1.take (trimR L).length (by rw [← h1.len]; exact trimR_length_le L)
  rw [← trimR_eq_take] at ht
  have hcx := Can_trimR h2
  have hv := V_trimR (B := 65536) L
  have hl : (trimR L).length ≤ n := by rw [← h1.len]; exact trimR_length_le L
  have R1 := hid (trim16 p n c L w h1)
  rw [← hv]
  generalize trimR L = us at *
  clear hv h1 h2
  have hmax := ht.max
  have hcap := ht.cap
  obtain ⟨q, hq⟩ : ∃ q, q = s / 16 := ⟨_, rfl⟩
  obtain ⟨r, hr⟩ : ∃ r, r = s % 16 := ⟨_, rfl⟩
  obtain ⟨m, hm⟩ : ∃ m, m = us.length := ⟨_, rfl⟩
  have hr16 : r < 16 := by omega
  have hsq : s = 16 * q + r := by omega
  have hqi : (s : Int) / 16 = (q : Int) := by omega
  have hri : (s : Int) % 16 = (r : Int) := by omega
  rw [← hm] at R1 ht hl hcap
  have HM := hid hm
  have HSQ := hid hsq
  clear hq hr hsq hm
  by_cases h0 : m ≤ q
  · have h0' : (m : Int) ≤ (q : Int) := by omega
    have e0 : V 65536 us / 2 ^ s = 0 := by
      refine Nat.div_eq_of_lt (Nat.lt_of_lt_of_le hcx.1.lt ?_)
      rw [← HM.out, HSQ.out, show (65536 : Nat) = 2 ^ 16 from rfl, ← Nat.pow_mul]
      exact Nat.pow_le_pow_right (by omega) (by omega)
    rw [e0]
    clear e0
    go_enter Tryd.func53, Tryd.ntmps53
    go_wp2_with (go_at_call 42; (with_reducible refine (R1.out).mono ?_); rintro e w' ⟨rfl, rfl⟩)
    go_ret
    exact ⟨none, 0, 0, rfl, IsC.nil _, by omega, grown_refl _ _⟩
  · have h0' : ¬ (m : Int) ≤ (q : Int) := by omega
    obtain ⟨t, htm⟩ : ∃ t, m = q + t := ⟨m - q, by omega⟩
    subst htm
    have ht0 : 0 < t := by omega
    obtain ⟨b, o, rfl, _⟩ := ht.cel 0 (by rw [← HM.out]; omega)
    have hcut := ht.cut q (q + t) (c - q) (by omega) (by omega) (by omega) (by omega)
    rw [show q + t - q = t by omega, List.take_of_length_le (by rw [List.length_drop, ← HM.out]; omega)] at hcut
    have hcq : ¬ (c = q) := by omega
    have hlo : q + t - q = t := by omega
    obtain ⟨vs, hvs⟩ : ∃ vs, vs = us.drop q := ⟨_, rfl⟩
    rw [← hvs] at hcut
    have hvl : vs.length = t := hcut.len
    have HVL := hid hvl
    have hvd : Dg 65536 vs := by rw [hvs]; exact hcx.1.drop q
    have hvv : V 65536 us / 2 ^ s = V 65536 vs / 2 ^ r := by
      rw [hvs, V_drop_eq us hcx.1 q (by rw [← HM.out]; omega), Nat.div_div_eq_div_mul, HSQ.out, Nat.pow_add, show (65536 : Nat) = 2 ^ 16 from rfl, ← Nat.pow_mul]
    rw [hvv]
    clear hvs hvv hvl
    go_enter Tryd.func53, Tryd.ntmps53
    go_wp2_with (first
      | (go_at_call 42; (with_reducible refine (R1.out).mono ?_); rintro e w' ⟨rfl, rfl⟩)
      | (go_at_call 56; refine (clone_any _ _ _ vs _ hcut (by omega)).mono ?_; rintro e w1 ⟨rfl, hr1, hg1⟩))
    have HQ := hid hcq
    have HCUT := hid hcut
    obtain ⟨g, hg⟩ : ∃ g, g = w.heap.size := ⟨_, rfl⟩
    rw [← hg] at hr1 ⊢
    rw [← HVL.out] at ht0 ⊢
    have HG := hid hg
    clear hg R1 hcut
    obtain ⟨T, hT⟩ : ∃ T, T = vs.length := ⟨_, rfl⟩
    rw [← hT] at ht0 ⊢
    have HT := hid hT
    have hTn : T ≤ n := by rw [hT, HVL.out]; omega
    clear hT
    go_loopw [26] (fun i wr => ∃ k : Nat, ∃ cu : List Nat, k ≤ T ∧ i = .int .i64 k ∧ IRow wr g 35 .u16 cu ∧ w1.grownBy wr (some g) ∧
        Hid (cu.length = T ∧ (∀ j, j < k → cu[j]? = some (V 65536 vs / 2 ^ r / 65536 ^ j % 65536)) ∧ ∀ j, k ≤ j → cu[j]? = vs[j]?)) (fun i _ => T - (intOf i).toNat)
    case atStart => exact ⟨0, _, Nat.zero_le _, rfl, hr1, grown_refl _ _, hid ⟨HT.out.symm, fun j hj => by omega, fun j hj => rfl⟩⟩
    case round =>
      obtain ⟨k, cu, hk, rfl, hr, hgr, HC⟩ := hrel
      by_cases hlt : k < T
      · have hku : k < vs.length := by rw [← HT.out]; exact hlt
        have hcl : k < cu.length := by rw [HC.out.1]; exact hlt
        have hcc := hr.cell k hcl
        have hfr := hr.free k
        have hcx' : cu[k] = vs[k] := by
          have := HC.out.2.2 k (Nat.le_refl _)
          rw [List.getElem?_eq_getElem hcl, List.getElem?_eq_getElem hku] at this
          exact Option.some.inj this
        rw [hcx'] at hcc
        obtain ⟨x, hx⟩ : ∃ x, x = vs[k] := ⟨_, rfl⟩
        rw [← hx] at hcc
        have hxb : x < 65536 := by rw [hx]; exact hvd.get _ hku
        have hdk := V_drop_succ (B := 65536) vs k hku
        rw [← hx, V_drop_eq vs hvd k (by omega)] at hdk
        have hr0 : (0 : Int) ≤ (r : Int) := by omega
        have hpr : 0 < 2 ^ r := Nat.pow_pos (by omega)
        have hdig : ∀ D, (V 65536 vs / 65536 ^ k = D ∨ ∃ R, V 65536 vs / 65536 ^ k = D + 65536 * 65536 * R) → D / 2 ^ r % 65536 = V 65536 vs / 2 ^ r / 65536 ^ k % 65536 := fun D hD => by
          rw [Nat.div_div_eq_div_mul, Nat.mul_comm (2 ^ r), ← Nat.div_div_eq_div_mul]
          rcases hD with hD | ⟨R, hD⟩
          · rw [hD]
          · have e : 65536 * 65536 * R = 2 ^ r * (65536 * (2 ^ (16 - r) * R)) := by
              rw [show 2 ^ r * (65536 * (2 ^ (16 - r) * R)) = (2 ^ r * 2 ^ (16 - r)) * (65536 * R) by rw [Nat.mul_assoc, Nat.mul_left_comm 65536], cut16 r hr16, Nat.mul_assoc]
            rw [hD, e, Nat.add_mul_div_left _ _ hpr, Nat.add_mul_mod_self_left]
        have HDIG := hid hdig
        clear hdig hcx' hpr
        by_cases hlast : k + 1 < T
        · have hku1 : k + 1 < vs.length := by rw [← HT.out]; exact hlast
          have hcl1 : k + 1 < cu.length := by rw [HC.out.1]; exact hlast
          have hcc1 := hr.cell (k + 1) hcl1
          have hcx1 : cu[k + 1] = vs[k + 1] := by
            have := HC.out.2.2 (k + 1) (by omega)
            rw [List.getElem?_eq_getElem hcl1, List.getElem?_eq_getElem hku1] at this
            exact Option.some.inj this
          rw [hcx1] at hcc1
          obtain ⟨y, hy⟩ : ∃ y, y = vs[k + 1] := ⟨_, rfl⟩
          rw [← hy] at hcc1
          have hyb : y < 65536 := by rw [hy]; exact hvd.get _ hku1
          have hdk1 := V_drop_succ (B := 65536) vs (k + 1) hku1
          rw [← hy] at hdk1
          rw [hdk1] at hdk
          obtain ⟨D, hD⟩ : ∃ D, D = x + y * 65536 := ⟨_, rfl⟩
          obtain ⟨E, hE⟩ : ∃ E, E = D / 2 ^ r := ⟨_, rfl⟩
          obtain ⟨F, hF⟩ : ∃ F, F = E % 65536 := ⟨_, rfl⟩
          have eO : bits .or .u32 (x : Int) ((y : Int) * 65536) = (D : Int) := by
            rw [show ((y : Int) * 65536) = ((y * 65536 : Nat) : Int) by simp, u32_or_nat _ _ (by omega) (by omega), Nat.or_comm, nat_join 16 _ _ (by omega) (by omega), hD, Nat.add_comm]
          have eE : (D : Int) / 2 ^ r = (E : Int) := by rw [hE]; simp
          have eF : IntKind.u16.wrap (E : Int) = (F : Int) := by rw [IntKind.wrap_u16]; omega
          have hfd := HDIG.out D (.inr ⟨V 65536 (vs.drop (k + 1 + 1)), by rw [hdk, hD, Nat.mul_add, ← Nat.mul_assoc]; omega⟩)
          rw [← hE, ← hF] at hfd
          have HFD := hid hfd
          have hk1 : (k : Int) + 1 < (T : Int) := by omega
          clear hx hy hdk hdk1 hcx1 hD hE hF hfd
          go_wp2_with fail
          refine ⟨⟨k + 1, cu.set k F, by omega, rfl, IRow.setv hr k _ F rfl, grown_trans hgr (grown_setCell _ _ _), hid ⟨by simpa using HC.out.1, fun j hj => ?_, fun j hj => ?_⟩⟩, by simp [intOf]; omega⟩
          · by_cases hjk : j = k
            · subst hjk; rw [List.getElem?_set_self hcl, HFD.out]
            · rw [List.getElem?_set_ne (Ne.symm hjk)]; exact HC.out.2.1 j (by omega)
          · rw [List.getElem?_set_ne (by omega)]; exact HC.out.2.2 j (by omega)
        · have hdn : vs.drop (k + 1) = [] := List.drop_of_length_le (by rw [← HT.out]; omega)
          rw [hdn] at hdk
          obtain ⟨E, hE⟩ : ∃ E, E = x / 2 ^ r := ⟨_, rfl⟩
          obtain ⟨F, hF⟩ : ∃ F, F = E % 65536 := ⟨_, rfl⟩
          have eE : (x : Int) / 2 ^ r = (E : Int) := by rw [hE]; simp
          have eF : IntKind.u16.wrap (E : Int) = (F : Int) := by rw [IntKind.wrap_u16]; omega
          have hfd := HDIG.out x (.inl (by rw [hdk]; simp))
          rw [← hE, ← hF] at hfd
          have HFD := hid hfd
          have hk1 : ¬ (k : Int) + 1 < (T : Int) := by omega
          clear hx hdk hdn hE hF hfd
          go_wp2_with fail
          refine ⟨⟨k + 1, cu.set k F, by omega, rfl, IRow.setv hr k _ F rfl, grown_trans hgr (grown_setCell _ _ _), hid ⟨by simpa using HC.out.1, fun j hj => ?_, fun j hj => ?_⟩⟩, by simp [intOf]; omega⟩
          · by_cases hjk : j = k
            · subst hjk; rw [List.getElem?_set_self hcl, HFD.out]
            · rw [List.getElem?_set_ne (Ne.symm hjk)]; exact HC.out.2.1 j (by omega)
          · rw [List.getElem?_set_ne (by omega)]; exact HC.out.2.2 j (by omega)
      · obtain rfl : k = T := by omega
        have hcl : cu.length = k := HC.out.1
        have hcd : Nm.Dg 65536 cu ∧ V 65536 cu = V 65536 vs / 2 ^ r := by
          have e : cu = tab k fun i => V 65536 vs / 2 ^ r / 65536 ^ i % 65536 := by
            apply List.ext_getElem (by simp [HC.out.1])
            intro j h1 h2
            have := HC.out.2.1 j (by rw [HC.out.1] at h1; exact h1)
            rw [List.getElem?_eq_getElem h1] at this
            simp only [Option.some.injEq] at this
            rw [this, tab_get]
          constructor
          · rw [e]; intro x hx
            obtain ⟨i, _, rfl⟩ := List.mem_map.1 hx
            exact Nat.mod_lt _ (by decide)
          · rw [e, V_tab_digits]
            have hb := hvd.lt
            rw [← HT.out] at hb
            exact Nat.mod_eq_of_lt (Nat.lt_of_le_of_lt (Nat.div_le_self _ _) hb)
        have hrd := hr.rd0 (by omega)
        rw [hcl] at hrd
        have HR := hid (trim16 _ _ _ cu _ hrd)
        have hrd2 := hid (hrd.take (trimR cu).length (by rw [← hcl]; exact trimR_length_le cu))
        have e2 : trimR cu = dg 65536 (V 65536 vs / 2 ^ r) := by
          rw [trimR_dg (by omega) hcd.1, hcd.2]
        have e3 : (trimR cu).length ≤ n := by
          have := trimR_length_le cu
          omega
        have HE := hid (And.intro e2 e3)
        clear hrd hcl e2 e3 hcd
        go_wp2_with (go_at_call 42; (with_reducible refine (HR.out).mono ?_); rintro e w' ⟨rfl, rfl⟩)
        go_ret
        have hd := hrd2.out
        rw [← trimR_eq_take] at hd
        refine ⟨_, _, _, rfl, ?_, HE.out.2, grown_new hg1 hgr (fun g' e' => by cases e'; rw [HG.out]; exact Nat.le_refl _)⟩
        unfold IsC
        rw [← HE.out.1]
        exact hd
end Go.Proofs.YtkggoniecmlglaaDoor
