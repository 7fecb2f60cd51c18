/-
  Contract of natural.unpack: words become canonical limbs.
-/
import Derived.Test.YthkgldpcgmnaiaaDoorWords
import Derived.Test.YthkgldpcgmnaiaaDoorLens
set_option linter.unusedVariables false
set_option linter.unusedSimpArgs false
namespace Go.Proofs.YthkgldpcgmnaiaaDoor
open Go.RowKit Nm

theorem W64_eq : W64 = 65536 ^ 4 := by decide

/-- limb i of a number is a part of its word i / 4 -/
theorem limb_of_word (N i : Nat) : N / W64 ^ (i / 4) % W64 / 2 ^ (i % 4 * 16) % 65536 = N / 65536 ^ i % 65536 := by
  have hj : i % 4 < 4 := Nat.mod_lt _ (by decide)
  have e2 : 2 ^ (i % 4 * 16) = 65536 ^ (i % 4) := by rw [Nat.mul_comm, Nat.pow_mul]
  have e3 : 65536 ^ i = W64 ^ (i / 4) * 65536 ^ (i % 4) := by
    rw [W64_eq, ← Nat.pow_mul, ← Nat.pow_add, Nat.div_add_mod]
  have e4 : W64 = 65536 ^ (i % 4) * 65536 ^ (4 - i % 4) := by rw [W64_eq, ← Nat.pow_add]; congr 1; omega
  rw [e2, e3, ← Nat.div_div_eq_div_mul]
  generalize N / W64 ^ (i / 4) = M
  rw [e4, Nat.mod_mul_right_div_self]
  exact Nat.mod_mod_of_dvd _ ⟨65536 ^ (3 - i % 4), by rw [← Nat.pow_succ']; congr 1; omega⟩

theorem unpack_size (xs : List Nat) (hd : Dg W64 xs) (top l : Nat) (ht : xs.length = top + 1) (t : Nat) (hg : xs[top]? = some t) (h0 : t ≠ 0) (hl : l = Lib.bitLen t) :
    V W64 xs < 65536 ^ (top * 4 + (l + 15) / 16) ∧ 65536 ^ (top * 4 + (l + 15) / 16 - 1) ≤ V W64 xs ∧ 1 ≤ l := by
  obtain ⟨htl, rfl⟩ := List.getElem?_eq_some_iff.1 hg
  have e := V_take_drop (B := W64) xs top (by omega)
  rw [V_drop_succ xs top htl, List.drop_of_length_le (by omega)] at e
  simp only [V_nil, Nat.mul_zero, Nat.add_zero] at e
  have h1 := (hd.take top).lt
  rw [List.length_take, Nat.min_eq_left (by omega)] at h1
  rcases bitLen_spec xs[top] (hd.get top htl) with ⟨h, _⟩ | ⟨b1, b2, b3⟩
  · exact absurd h h0
  rw [← hl] at b1 b2 b3
  generalize xs[top] = t at *
  have w4 : W64 ^ top = 65536 ^ (top * 4) := by rw [W64_eq, ← Nat.pow_mul, Nat.mul_comm]
  rw [w4] at e h1
  refine ⟨?_, ?_, b1⟩
  · have c1 : t < 65536 ^ ((l + 15) / 16) := by
      refine Nat.lt_of_lt_of_le b3 ?_
      rw [show (65536 : Nat) = 2 ^ 16 from rfl, ← Nat.pow_mul]
      exact Nat.pow_le_pow_right (by omega) (by omega)
    rw [Nat.pow_add]
    have c2 : 65536 ^ (top * 4) * (t + 1) ≤ 65536 ^ (top * 4) * 65536 ^ ((l + 15) / 16) := Nat.mul_le_mul_left _ c1
    rw [Nat.mul_add, Nat.mul_one] at c2
    omega
  · have c1 : 65536 ^ ((l + 15) / 16 - 1) ≤ t := by
      refine Nat.le_trans ?_ b2
      rw [show (65536 : Nat) = 2 ^ 16 from rfl, ← Nat.pow_mul]
      exact Nat.pow_le_pow_right (by omega) (by omega)
    rw [show top * 4 + (l + 15) / 16 - 1 = top * 4 + ((l + 15) / 16 - 1) by omega, Nat.pow_add, e]
    exact Nat.le_trans (Nat.mul_le_mul_left _ c1) (Nat.le_add_left _ _)

set_option maxHeartbeats 1000000 in
theorem unpack_any (a : Option Addr) (n c : Nat) (xs : List Nat) (w : World) (h : IRd w .u64 a n c xs) (hd : Dg W64 xs) (hn : n ≤ 1000000) :
    Calls Tryd.prog 39 #[.slice a n c] w fun e w' => ∃ a' c', e = .returned (.slice a' (dg 65536 (V W64 xs)).length c') ∧ IRd w' .u16 a' (dg 65536 (V W64 xs)).length c' (dg 65536 (V W64 xs)) ∧ w.grownBy w' none := by
  have hmax := h.max
  have hcap := h.cap
  have ht := h.take (trimR xs).length (by rw [← h.len]; exact trimR_length_le xs)
  rw [← trimR_eq_take] at ht
  have hv := V_trimR (B := W64) xs
  have hcan := Can_trimR hd
  have hm : (trimR xs).length ≤ n := by rw [← h.len]; exact trimR_length_le xs
  obtain ⟨ys, hys⟩ : ∃ ys, ys = trimR xs := ⟨_, rfl⟩
  obtain ⟨m, hm'⟩ : ∃ m, m = ys.length := ⟨_, rfl⟩
  rw [← hys] at ht hv hcan hm
  rw [← hm'] at ht hm
  have HM := hid hm'
  have HV := hid hv
  have HY := hid hys
  clear hm' hv hys
  by_cases h0 : m = 0
  · subst h0
    go_enter Tryd.func39, Tryd.ntmps39
    go_wp2_with (go_at_call 58; refine (trim64 a n c xs _ h).mono ?_; rw [← HY.out, ← HM.out]; rintro e w' ⟨rfl, rfl⟩)
    go_ret
    have : ys = [] := List.eq_nil_of_length_eq_zero HM.out.symm
    have e : dg 65536 (V W64 xs) = [] := by rw [← HV.out, this]; rfl
    rw [e]
    exact ⟨none, 0, rfl, IRd.nil _ _, grown_refl _ _⟩
  · obtain ⟨top, rfl⟩ : ∃ top, m = top + 1 := ⟨m - 1, by omega⟩
    obtain ⟨b, o, rfl, hcell⟩ := ht.cel top (by rw [← HM.out]; omega)
    have htl : top < ys.length := by rw [← HM.out]; omega
    obtain ⟨t, htt⟩ : ∃ t, t = ys[top] := ⟨_, rfl⟩
    rw [← htt] at hcell
    have htb : t < W64 := by rw [htt]; exact hcan.1.get top htl
    have HT := hid htt
    clear htt
    go_enter Tryd.func39, Tryd.ntmps39
    go_wp2_with (first
      | (go_at_call 58; refine (trim64 _ n c xs _ h).mono ?_; rw [← HY.out, ← HM.out]; rintro e w' ⟨rfl, rfl⟩)
      | (go_at_call 41; refine (len64_any t htb _).mono ?_; rintro e w' ⟨l, hl, HL, rfl, rfl⟩)
      | (at_make; refine wl_make _ rfl _ _ 23 rfl 47 .u16 2 Tryd.underlying23 (by kernel_rfl) _ _ _ _ rfl rfl (top * 4 + (l + 15) / 16) (by omega) (by omega) (by omega) (by omega) ?_; intro w1 hr1 hg1))
    have hsz := unpack_size ys hcan.1 top l (by rw [← HM.out]) t (by rw [HT.out]; exact List.getElem?_eq_getElem htl) (by
      rw [HT.out]; intro hz; apply hcan.2
      rw [List.getLast?_eq_getElem?, show ys.length - 1 = top by rw [← HM.out]; omega, List.getElem?_eq_getElem htl, hz]) HL.out
    have hl1 := hsz.2.2
    have HS := hid hsz
    obtain ⟨g, hg⟩ : ∃ g, g = w.heap.size := ⟨_, rfl⟩
    rw [← hg] at hr1 ⊢
    have HG := hid hg
    clear hsz hg
    obtain ⟨q, hq⟩ : ∃ q, q = top * 4 + (l + 15) / 16 := ⟨_, rfl⟩
    have hqi : (top : Int) * 4 + ((l : Int) + 15) / 16 = (q : Int) := by omega
    rw [hqi, ← hq]
    rw [← hq] at hr1
    have hqb : q ≤ 4000004 := by omega
    have HQ := hid hq
    clear hq hqi
    go_loopw [30] (fun i wr => ∃ k : Nat, ∃ cur : List Nat, k ≤ q ∧ i = .int .i64 k ∧ IRow wr g 47 .u16 cur ∧ w1.grownBy wr (some g) ∧ Hid (cur.length = q ∧ ∀ j, j < k → cur[j]? = some (V W64 ys / 65536 ^ j % 65536)))
      (fun i _ => q - (intOf i).toNat)
    case atStart => exact ⟨0, _, Nat.zero_le _, rfl, hr1, grown_refl _ _, hid ⟨by simp, fun j hj => by omega⟩⟩
    case round =>
      obtain ⟨k, cur, hk, rfl, hrow, hgr, HC⟩ := hrel
      by_cases hlt : k < q
      · have hk4 : k / 4 < ys.length := by rw [← HM.out]; have := HQ.out; omega
        obtain ⟨b', o', hbo, hc4⟩ := ht.cel (k / 4) hk4
        cases hbo
        have hc4' := (hg1.cell hc4 (by simp))
        have hc4'' := hgr.cell hc4' (by
          intro e
          have := World.block_lt_of_cell? _ _ hc4
          have h2 := HG.out
          simp at e this; omega)
        obtain ⟨x, hx⟩ : ∃ x, x = ys[k / 4] := ⟨_, rfl⟩
        rw [← hx] at hc4''
        have hxb : x < W64 := by rw [hx]; exact hcan.1.get _ hk4
        have HX := hid hx
        have hcl : k < cur.length := by rw [HC.out.1]; exact hlt
        have hcc := hrow.cell k hcl
        have hfr := hrow.free k
        obtain ⟨y, hy⟩ : ∃ y, y = cur[k] := ⟨_, rfl⟩
        rw [← hy] at hcc
        clear hc4 hc4' hx hy hcell
        have hk0 : (0 : Int) ≤ (k : Int) / 4 := by omega
        have hk1 : (k : Int) / 4 < (top : Int) + 1 := by have := HQ.out; omega
        go_wp2_with (refine wl_shr _ rfl _ _ (.tmp 39) (.tmp 42) rfl .u64 .i64 x (k % 4 * 16) _ rfl rfl (by omega) (by have : k % 4 < 4 := Nat.mod_lt _ (by decide); show _ ≤ 64; omega) ?_; intro z HZ hz)
        refine ⟨⟨k + 1, _, by omega, rfl, hrow.setv k _ (z % 65536) (by rw [IntKind.wrap_u16]; omega), grown_trans hgr (grown_setCell _ _ _), hid ⟨by simpa using HC.out.1, fun j hj => ?_⟩⟩, by simp [intOf]; omega⟩
        by_cases hjk : j = k
        · subst hjk
          rw [List.getElem?_set_self hcl, HZ.out, HX.out, dig_get (B := W64) ys hcan.1 _ hk4, limb_of_word]
        · rw [List.getElem?_set_ne (Ne.symm hjk)]
          exact HC.out.2 j (by omega)
      · obtain rfl : k = q := by omega
        clear hcell
        go_wp2
        go_ret
        have hS := HS.out
        rw [← HQ.out] at hS
        have e : cur = dg 65536 (V W64 xs) := by
          rw [← HV.out, ← eq_tab (by omega) _ k hS.1 (.inr hS.2.1)]
          apply List.ext_getElem (by simp [HC.out.1])
          intro j h1 h2
          have := HC.out.2 j (by rw [HC.out.1] at h1; exact h1)
          rw [List.getElem?_eq_getElem h1] at this
          simp only [Option.some.injEq] at this
          rw [this, tab_get]
        have hlen : k = (dg 65536 (V W64 xs)).length := by rw [← e, HC.out.1]
        rw [← hlen, ← e]
        have hrd := hrow.rd0 (by rw [HC.out.1]; omega)
        rw [HC.out.1] at hrd
        exact ⟨_, _, rfl, hrd, grown_new hg1 hgr (fun g' e' => by cases e'; rw [HG.out]; exact Nat.le_refl _)⟩
end Go.Proofs.YthkgldpcgmnaiaaDoor
