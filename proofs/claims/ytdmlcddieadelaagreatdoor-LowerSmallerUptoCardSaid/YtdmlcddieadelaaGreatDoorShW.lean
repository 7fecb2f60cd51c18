/-
  Contracts of natural.shiftUp and natural.shiftDown: words times, and divided by, a power of 2.
-/
import Derived.Test.YtdmlcddieadelaaGreatDoorSubP
import Derived.Test.YtdmlcddieadelaaGreatDoorDiv64
import Derived.RegionTactic
import Derived.ChangeAlike
set_option linter.unusedVariables false
set_option linter.unusedSimpArgs false
namespace Go.Proofs.YtdmlcddieadelaaGreatDoor
open Go.RowKit Nm

theorem or_shift (a x n : Nat) (hn : n ≤ 63) (ha : a < 2 ^ n) : bits .or .u64 (a : Int) ((x * 2 ^ n % W64 : Nat) : Int) = ((a + x * 2 ^ n % W64 : Nat) : Int) ∧ a + x * 2 ^ n % W64 < W64 := by
  have hlow := shl_low (x := x) (two_pow_cut n hn)
  have hX : x * 2 ^ n % W64 < W64 := Nat.mod_lt _ (by decide)
  have hj := nat_join n (x * 2 ^ n % W64) a (by rw [hlow]; exact Nat.mul_mod_left _ _) ha
  have hb : a + x * 2 ^ n % W64 < W64 := by
    have h1 : x % 2 ^ (64 - n) < 2 ^ (64 - n) := Nat.mod_lt _ (Nat.pow_pos (by omega))
    have h2 := Nat.mul_le_mul_right (2 ^ n) (show x % 2 ^ (64 - n) + 1 ≤ 2 ^ (64 - n) from h1)
    rw [Nat.add_mul, Nat.one_mul, Nat.mul_comm (2 ^ (64 - n)), two_pow_cut n hn, ← hlow] at h2
    omega
  have ha2 : a < W64 := Nat.lt_of_le_of_lt (Nat.le_add_right _ _) hb
  refine ⟨?_, hb⟩
  rw [bits_or_u64_nat _ _ ha2 hX, Nat.or_comm, hj, Nat.add_comm]

set_option maxHeartbeats 1000000 in
theorem shiftUp_any (a : Option Addr) (L c n : Nat) (ws : List Nat) (w : World) (h : IRd w .u64 a L c ws) (hd : Dg W64 ws) (hn : n ≤ 63) (hL : L ≤ 900000000) :
    Calls Tryz.prog 169 #[.slice a L c, .int .i64 n] w fun e w' => ∃ ys, e = .returned (.slice (some ⟨w.heap.size, 0, none⟩) (L + 1 : Nat) (L + 1 : Nat)) ∧ IRow w' w.heap.size 116 .u64 ys ∧
      Hid (ys.length = L + 1 ∧ V W64 ys = V W64 ws * 2 ^ n ∧ Dg W64 ys) ∧ w.grownBy w' none := by
  have hmax := h.max
  have hcap := h.cap
  have HL := hid h.len
  obtain ⟨g, hg⟩ : ∃ g, g = w.heap.size := ⟨_, rfl⟩
  go_enter Tryz.func169, Tryz.ntmps169
  go_wp2_with (first
      | (at_make; refine wl_make _ rfl _ _ 163 rfl 116 .u64 8 Tryz.underlying163 (by kernel_rfl) _ _ _ _ rfl rfl (L + 1) (by omega) (by omega) (by omega) (by omega) ?_; intro w1 hr1 hg1))
  rw [← hg] at hr1 ⊢
  have HG := hid hg
  clear hg
  go_loopw [14] (fun i wr => ∃ k : Nat, ∃ cu : List Nat, k ≤ L ∧ i = .int .i64 k ∧ IRow wr g 116 .u64 cu ∧ w1.grownBy wr (some g) ∧
      Hid (cu.length = L + 1 ∧ Dg W64 cu ∧ V W64 cu = V W64 (ws.take k) * 2 ^ n ∧ (∀ j, k < j → j < L + 1 → cu[j]? = some 0) ∧ ∀ t, cu[k]? = some t → t < 2 ^ n)) (fun i _ => L - (intOf i).toNat)
  case atStart => exact ⟨0, _, Nat.zero_le _, rfl, hr1, grown_refl _ _, hid ⟨by simp, Dg.zeros (by decide) _, by rw [V_zeros]; simp, fun j h1 h2 => by simp [h2], fun t ht => by
    have : t = 0 := by simpa using ht.symm
    rw [this]; exact Nat.pow_pos (by omega)⟩⟩
  case round =>
    obtain ⟨k, cu, hk, rfl, hr, hgr, HC⟩ := hrel
    by_cases hlt : k < L
    · have hku : k < ws.length := by rw [HL.out]; exact hlt
      obtain ⟨b', o', rfl, hc1⟩ := h.cel k hku
      have hbl := World.block_lt_of_cell? _ _ hc1
      have hc2 := hgr.cell (hg1.cell hc1 (by simp)) (by intro e; have := HG.out; simp at e hbl; omega)
      obtain ⟨x, hx⟩ : ∃ x, x = ws[k] := ⟨_, rfl⟩
      rw [← hx] at hc2
      have hxb : x < W64 := by rw [hx]; exact hd.get _ hku
      have hv := V_take_succ (B := W64) ws k hku
      rw [← hx] at hv
      have hcl : k < cu.length := by rw [HC.out.1]; omega
      have hcl1 : k + 1 < cu.length := by rw [HC.out.1]; omega
      have hcc := hr.cell k hcl
      have hfr := hr.free k
      have hcc1 := hr.cell (k + 1) hcl1
      have hfr1 := hr.free (k + 1)
      obtain ⟨t, ht⟩ : ∃ t, t = cu[k] := ⟨_, rfl⟩
      rw [← ht] at hcc
      have htb : t < 2 ^ n := HC.out.2.2.2.2 t (by rw [List.getElem?_eq_getElem hcl, ht])
      have h0 : cu[k + 1] = 0 := by
        have := HC.out.2.2.2.1 (k + 1) (by omega) (by omega)
        rw [List.getElem?_eq_getElem hcl1] at this
        simpa using this
      rw [h0] at hcc1
      have hup := up_step (W := W64) (S := 2 ^ n) (T := 2 ^ (64 - n)) (by decide) (two_pow_cut n hn) (Nat.pow_pos (by omega)) (Nat.pow_pos (by omega)) cu k x _ hcl1 hxb h0 HC.out.2.2.1
      have hos := or_shift t x n hn htb
      rw [← ht, ← hv] at hup
      obtain ⟨X, hX⟩ : ∃ X, X = x * 2 ^ n % W64 := ⟨_, rfl⟩
      obtain ⟨Z, hZ⟩ : ∃ Z, Z = x / 2 ^ (64 - n) := ⟨_, rfl⟩
      obtain ⟨U, hU⟩ : ∃ U, U = t + X := ⟨_, rfl⟩
      have hZb : Z < W64 := by rw [hZ]; exact Nat.lt_of_le_of_lt (Nat.div_le_self _ _) hxb
      rw [← hX, ← hU] at hos
      rw [← hX, ← hU, ← hZ] at hup
      have eX : IntKind.u64.wrap ((x : Int) * 2 ^ n) = (X : Int) := by
        rw [show ((x : Int) * 2 ^ n) = ((x * 2 ^ n : Nat) : Int) by simp, wrap_mod, hX]; rfl
      have eO := hos.1
      have eZ : (x : Int) / 2 ^ (64 - n) = (Z : Int) := by rw [hZ]; simp
      have HUP := hid hup
      have HUb := hid hos.2
      have HZb := hid hZb
      have hn0 : (0 : Int) ≤ (n : Int) := by omega
      have hn1 : (n : Int) ≤ 64 := by omega
      have hkk : (k : Int) + 1 < (L : Int) + 1 := by omega
      have hkk0 : (0 : Int) ≤ (k : Int) := by omega
      have hkk1 : (k : Int) < (L : Int) + 1 := by omega
      clear hx hv ht htb h0 hup hos hX hZ hU hZb hc1
      go_wp2
      go_region
      all_goals
        go_wp2
        refine ⟨⟨k + 1, (cu.set k U).set (k + 1) Z, by omega, rfl, ?_, ?_, hid ⟨by simpa using HC.out.1, (HC.out.2.1.set _ _ HUb.out).set _ _ HZb.out, HUP.out.1, fun j h1 h2 => ?_, fun t ht => ?_⟩⟩, by simp [intOf]; omega⟩
        · exact IRow.setv (IRow.setv (w := wr.drew) hr k _ U rfl) (k + 1) _ Z rfl
        · exact grown_trans (grown_trans (grown_trans hgr (grown_setCell _ _ _)) (grown_setCell _ _ _)) (grown_drew _ _)
        · rw [List.getElem?_set_ne (by omega), List.getElem?_set_ne (by omega)]
          exact HC.out.2.2.2.1 j (by omega) h2
        · rw [List.getElem?_set_self (by simpa using hcl1)] at ht
          rw [← Option.some.inj ht]; exact HUP.out.2
    · obtain rfl : k = L := by omega
      go_wp2
      go_ret
      have e1 := HC.out.2.2.1
      rw [List.take_of_length_le (by rw [HL.out]; exact Nat.le_refl _)] at e1
      exact ⟨cu, by rw [← HG.out]; rfl, by rw [← HG.out]; exact hr, hid ⟨HC.out.1, e1, HC.out.2.1⟩, grown_new hg1 hgr (fun g' e' => by cases e'; rw [HG.out]; exact Nat.le_refl _)⟩

set_option maxHeartbeats 1000000 in
theorem shiftDown_any (a : Option Addr) (L c n : Nat) (ws : List Nat) (w : World) (h : IRd w .u64 a L c ws) (hd : Dg W64 ws) (hn : n ≤ 63) (hL : L ≤ 900000000) :
    Calls Tryz.prog 174 #[.slice a L c, .int .i64 n] w fun e w' => ∃ ys, e = .returned (.slice (some ⟨w.heap.size, 0, none⟩) L L) ∧ IRow w' w.heap.size 116 .u64 ys ∧
      Hid (ys.length = L ∧ V W64 ys = V W64 ws / 2 ^ n ∧ Dg W64 ys) ∧ w.grownBy w' none := by
  have hmax := h.max
  have hcap := h.cap
  have HL := hid h.len
  obtain ⟨g, hg⟩ : ∃ g, g = w.heap.size := ⟨_, rfl⟩
  go_enter Tryz.func174, Tryz.ntmps174
  go_wp2_with (first
      | (at_make; refine wl_make _ rfl _ _ 163 rfl 116 .u64 8 Tryz.underlying163 (by kernel_rfl) _ _ _ _ rfl rfl L (by omega) (by omega) (by omega) (by omega) ?_; intro w1 hr1 hg1))
  rw [← hg] at hr1 ⊢
  have HG := hid hg
  clear hg
  go_loopw [13] (fun i wr => ∃ k : Nat, ∃ cu : List Nat, k ≤ L ∧ i = .int .i64 k ∧ IRow wr g 116 .u64 cu ∧ w1.grownBy wr (some g) ∧
      Hid (cu.length = L ∧ Dg W64 cu ∧ V W64 cu = V W64 (ws.take k) / 2 ^ n ∧ (∀ j, k ≤ j → j < L → cu[j]? = some 0) ∧ ∀ j t, j + 1 = k → cu[j]? = some t → t < 2 ^ (64 - n))) (fun i _ => L - (intOf i).toNat)
  case atStart => exact ⟨0, _, Nat.zero_le _, rfl, hr1, grown_refl _ _, hid ⟨by simp, Dg.zeros (by decide) _, by rw [V_zeros]; simp, fun j h1 h2 => by simp [h2], fun j t hj ht => by omega⟩⟩
  case round =>
    obtain ⟨k, cu, hk, rfl, hr, hgr, HC⟩ := hrel
    by_cases hlt : k < L
    · have hku : k < ws.length := by rw [HL.out]; exact hlt
      obtain ⟨b', o', rfl, hc1⟩ := h.cel k hku
      have hbl := World.block_lt_of_cell? _ _ hc1
      have hc2 := hgr.cell (hg1.cell hc1 (by simp)) (by intro e; have := HG.out; simp at e hbl; omega)
      obtain ⟨x, hx⟩ : ∃ x, x = ws[k] := ⟨_, rfl⟩
      rw [← hx] at hc2
      have hxb : x < W64 := by rw [hx]; exact hd.get _ hku
      have hv := V_take_succ (B := W64) ws k hku
      rw [← hx] at hv
      have hcl : k < cu.length := by rw [HC.out.1]; omega
      have h0 : cu[k] = 0 := by
        have := HC.out.2.2.2.1 k (by omega) (by omega)
        rw [List.getElem?_eq_getElem hcl] at this
        simpa using this
      have hcc := hr.cell k hcl
      have hfr := hr.free k
      rw [h0] at hcc
      obtain ⟨Z, hZ⟩ : ∃ Z, Z = x / 2 ^ n := ⟨_, rfl⟩
      have hZb : Z < W64 := by rw [hZ]; exact Nat.lt_of_le_of_lt (Nat.div_le_self _ _) hxb
      have eZ : (x : Int) / 2 ^ n = (Z : Int) := by rw [hZ]; simp
      have hn0 : (0 : Int) ≤ (n : Int) := by omega
      have hn1 : (n : Int) ≤ 64 := by omega
      have hkk0 : (0 : Int) ≤ (k : Int) := by omega
      have hkk1 : (k : Int) < (L : Int) := by omega
      have hZt : Z < 2 ^ (64 - n) := by rw [hZ]; exact Nat.div_lt_of_lt_mul (by rw [two_pow_cut n hn]; exact hxb)
      by_cases hk0 : 0 < k
      · obtain ⟨j, rfl⟩ : ∃ j, k = j + 1 := ⟨k - 1, by omega⟩
        have hclj : j < cu.length := by omega
        have hccj := hr.cell j hclj
        have hfrj := hr.free j
        obtain ⟨t, ht⟩ : ∃ t, t = cu[j] := ⟨_, rfl⟩
        rw [← ht] at hccj
        have htb : t < 2 ^ (64 - n) := HC.out.2.2.2.2 j t rfl (by rw [List.getElem?_eq_getElem hclj, ht])
        have hds := down_step (W := W64) (S := 2 ^ n) (T := 2 ^ (64 - n)) (by decide) (two_pow_cut n hn) (Nat.pow_pos (by omega)) (Nat.pow_pos (by omega)) cu j x _ hcl hxb h0 HC.out.2.2.1
        have hos : bits .or .u64 (t : Int) ((x * 2 ^ (64 - n) % W64 : Nat) : Int) = ((t + x * 2 ^ (64 - n) % W64 : Nat) : Int) ∧ t + x * 2 ^ (64 - n) % W64 < W64 := by
          rcases Nat.eq_zero_or_pos n with hn0 | hn0
          · have e64 : x * 2 ^ (64 - n) % W64 = 0 := by rw [hn0]; exact Nat.mul_mod_left x W64
            rw [e64]
            have : t < W64 := by rw [hn0] at htb; exact htb
            exact ⟨by rw [bits_or_u64_nat _ _ this (by decide)]; simp, by simpa using this⟩
          · exact or_shift t x (64 - n) (by omega) htb
        rw [← ht, ← hv] at hds
        obtain ⟨X, hX⟩ : ∃ X, X = x * 2 ^ (64 - n) % W64 := ⟨_, rfl⟩
        obtain ⟨U, hU⟩ : ∃ U, U = t + X := ⟨_, rfl⟩
        rw [← hX, ← hU] at hos
        rw [← hX, ← hU, ← hZ] at hds
        have eX : IntKind.u64.wrap ((x : Int) * 2 ^ (64 - n)) = (X : Int) := by
          rw [show ((x : Int) * 2 ^ (64 - n)) = ((x * 2 ^ (64 - n) : Nat) : Int) by simp, wrap_mod, hX]; rfl
        have eO := hos.1
        have HUP := hid hds
        have HUb := hid hos.2
        have HZb := hid hZb
        have HZt := hid hZt
        have hj1 : (j : Int) < (L : Int) := by omega
        have hj0 : (0 : Int) ≤ (j : Int) := by omega
        clear hx hv ht htb h0 hds hos hX hZ hU hZb hc1 hZt
        go_wp2
        go_region
        all_goals
          go_wp2
          refine ⟨⟨j + 1 + 1, (cu.set (j + 1) Z).set j U, by omega, rfl, ?_, ?_, hid ⟨by simpa using HC.out.1, (HC.out.2.1.set _ _ HZb.out).set _ _ HUb.out, HUP.out.1, fun j' h1 h2 => ?_, fun j' t hj ht => ?_⟩⟩, by simp [intOf]; omega⟩
          · exact IRow.setv (IRow.setv (w := wr) hr (j + 1) _ Z rfl) j _ U rfl
          · exact grown_trans (grown_trans (grown_trans hgr (grown_setCell _ _ _)) (grown_setCell _ _ _)) (grown_drew _ _)
          · rw [List.getElem?_set_ne (by omega), List.getElem?_set_ne (by omega)]
            exact HC.out.2.2.2.1 j' (by omega) h2
          · obtain rfl : j' = j + 1 := by omega
            rw [List.getElem?_set_ne (by omega), List.getElem?_set_self hcl] at ht
            rw [← Option.some.inj ht]; exact HZt.out
      · obtain rfl : k = 0 := by omega
        have hdf := down_first (W := W64) (S := 2 ^ n) cu x hcl h0 (by rw [HC.out.2.2.1]; simp)
        rw [← hZ] at hdf
        have e2 : V W64 (cu.set 0 Z) = V W64 (ws.take 1) / 2 ^ n := by rw [hdf, hv, hZ]; simp
        have HUP := hid e2
        have HZb := hid hZb
        have HZt := hid hZt
        clear hx hv h0 hZ hZb hc1 hZt hdf e2
        rw [Nat.add_zero] at hc2
        go_wp2
        refine ⟨⟨1, cu.set 0 Z, by omega, rfl, IRow.setv (w := wr) hr 0 _ Z rfl, grown_trans hgr (grown_setCell _ _ _), hid ⟨by simpa using HC.out.1, HC.out.2.1.set _ _ HZb.out, HUP.out, fun j' h1 h2 => ?_, fun j' t hj ht => ?_⟩⟩, by simp [intOf]; omega⟩
        · rw [List.getElem?_set_ne (by omega)]
          exact HC.out.2.2.2.1 j' (by omega) h2
        · obtain rfl : j' = 0 := by omega
          rw [List.getElem?_set_self hcl] at ht
          rw [← Option.some.inj ht]; exact HZt.out
    · obtain rfl : k = L := by omega
      go_wp2
      go_ret
      have e1 := HC.out.2.2.1
      rw [List.take_of_length_le (by rw [HL.out]; exact Nat.le_refl _)] at e1
      exact ⟨cu, by rw [← HG.out]; rfl, by rw [← HG.out]; exact hr, hid ⟨HC.out.1, e1, HC.out.2.1⟩, grown_new hg1 hgr (fun g' e' => by cases e'; rw [HG.out]; exact Nat.le_refl _)⟩
end Go.Proofs.YtdmlcddieadelaaGreatDoor
