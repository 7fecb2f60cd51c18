/-
  Contracts of functions of the program, part 2: Unpack, Pack, Cmp, Add, Sub.
-/
import Derived.Test.YtnfmjlomiihcnaaDoorMi1
import Derived.Deep.DeepCutAuto
/-
  Contract of natural.unpack: words become canonical limbs.
-/
set_option linter.unusedVariables false
set_option linter.unusedSimpArgs false
namespace Go.Proofs.YtnfmjlomiihcnaaDoor
open Go.RowKit Nm

theorem W64_eq : W64 = 65536 ^ 4 := by decide

/-- limb i of a number is a part of its word i / 4 -/
theorem limb_of_word (N i : Nat) : N / W64 ^ (i / 4) % W64 / 2 ^ (i % 4 * 16) % 65536 = N / 65536 ^ i % 65536 := by
  have hj : i % 4 < 4 := Nat.mod_lt _ (by decide)
  have e2 : 2 ^ (i % 4 * 16) = 65536 ^ (i % 4) := by rw [Nat.mul_comm, Nat.pow_mul]
  have e3 : 65536 ^ i = W64 ^ (i / 4) * 65536 ^ (i % 4) := by
    rw [W64_eq, ← Nat.pow_mul, ← Nat.pow_add, Nat.div_add_mod]
  have e4 : W64 = 65536 ^ (i % 4) * 65536 ^ (4 - i % 4) := by rw [W64_eq, ← Nat.pow_add]; congr 1; omega
  rw [e2, e3, ← Nat.div_div_eq_div_mul]
  generalize N / W64 ^ (i / 4) = M
  rw [e4, Nat.mod_mul_right_div_self]
  exact Nat.mod_mod_of_dvd _ ⟨65536 ^ (3 - i % 4), by rw [← Nat.pow_succ']; congr 1; omega⟩

theorem unpack_size (xs : List Nat) (hd : Dg W64 xs) (top l : Nat) (ht : xs.length = top + 1) (t : Nat) (hg : xs[top]? = some t) (h0 : t ≠ 0) (hl : l = Lib.bitLen t) :
    V W64 xs < 65536 ^ (top * 4 + (l + 15) / 16) ∧ 65536 ^ (top * 4 + (l + 15) / 16 - 1) ≤ V W64 xs ∧ 1 ≤ l := by
  obtain ⟨htl, rfl⟩ := List.getElem?_eq_some_iff.1 hg
  have e := V_take_drop (B := W64) xs top (by omega)
  rw [V_drop_succ xs top htl, List.drop_of_length_le (by omega)] at e
  simp only [V_nil, Nat.mul_zero, Nat.add_zero] at e
  have h1 := (hd.take top).lt
  rw [List.length_take, Nat.min_eq_left (by omega)] at h1
  rcases bitLen_spec xs[top] (hd.get top htl) with ⟨h, _⟩ | ⟨b1, b2, b3⟩
  · exact absurd h h0
  rw [← hl] at b1 b2 b3
  generalize xs[top] = t at *
  have w4 : W64 ^ top = 65536 ^ (top * 4) := by rw [W64_eq, ← Nat.pow_mul, Nat.mul_comm]
  rw [w4] at e h1
  refine ⟨?_, ?_, b1⟩
  · have c1 : t < 65536 ^ ((l + 15) / 16) := by
      refine Nat.lt_of_lt_of_le b3 ?_
      rw [show (65536 : Nat) = 2 ^ 16 from rfl, ← Nat.pow_mul]
      exact Nat.pow_le_pow_right (by omega) (by omega)
    rw [Nat.pow_add]
    have c2 : 65536 ^ (top * 4) * (t + 1) ≤ 65536 ^ (top * 4) * 65536 ^ ((l + 15) / 16) := Nat.mul_le_mul_left _ c1
    rw [Nat.mul_add, Nat.mul_one] at c2
    omega
  · have c1 : 65536 ^ ((l + 15) / 16 - 1) ≤ t := by
      refine Nat.le_trans ?_ b2
      rw [show (65536 : Nat) = 2 ^ 16 from rfl, ← Nat.pow_mul]
      exact Nat.pow_le_pow_right (by omega) (by omega)
    rw [show top * 4 + (l + 15) / 16 - 1 = top * 4 + ((l + 15) / 16 - 1) by omega, Nat.pow_add, e]
    exact Nat.le_trans (Nat.mul_le_mul_left _ c1) (Nat.le_add_left _ _)

set_option maxHeartbeats 1000000 in
theorem unpack_any (a : Option Addr) (n c : Nat) (xs : List Nat) (w : World) (h : IRd w .u64 a n c xs) (hd : Dg W64 xs) (hn : n ≤ 1000000) :
    Calls Tryd.prog 49 #[.slice a n c] w fun e w' => ∃ a' c', e = .returned (.slice a' (dg 65536 (V W64 xs)).length c') ∧ IRd w' .u16 a' (dg 65536 (V W64 xs)).length c' (dg 65536 (V W64 xs)) ∧ w.grownBy w' none := by
  have hmax := h.max
  have hcap := h.cap
  have ht := h.take (trimR xs).length (by rw [← h.len]; exact trimR_length_le xs)
  rw [← trimR_eq_take] at ht
  have hv := V_trimR (B := W64) xs
  have hcan := Can_trimR hd
  have hm : (trimR xs).length ≤ n := by rw [← h.len]; exact trimR_length_le xs
  obtain ⟨ys, hys⟩ : ∃ ys, ys = trimR xs := ⟨_, rfl⟩
  obtain ⟨m, hm'⟩ : ∃ m, m = ys.length := ⟨_, rfl⟩
  rw [← hys] at ht hv hcan hm
  rw [← hm'] at ht hm
  have HM := hid hm'
  have HV := hid hv
  have HY := hid hys
  clear hm' hv hys
  by_cases h0 : m = 0
  · subst h0
    go_enter Tryd.func49, Tryd.ntmps49
    go_wp2_with (go_at_call 64; refine (trim64 a n c xs _ h).mono ?_; rw [← HY.out, ← HM.out]; rintro e w' ⟨rfl, rfl⟩)
    go_ret
    have : ys = [] := List.eq_nil_of_length_eq_zero HM.out.symm
    have e : dg 65536 (V W64 xs) = [] := by rw [← HV.out, this]; rfl
    rw [e]
    exact ⟨none, 0, rfl, IRd.nil _ _, grown_refl _ _⟩
  · obtain ⟨top, rfl⟩ : ∃ top, m = top + 1 := ⟨m - 1, by omega⟩
    obtain ⟨b, o, rfl, hcell⟩ := ht.cel top (by rw [← HM.out]; omega)
    have htl : top < ys.length := by rw [← HM.out]; omega
    obtain ⟨t, htt⟩ : ∃ t, t = ys[top] := ⟨_, rfl⟩
    rw [← htt] at hcell
    have htb : t < W64 := by rw [htt]; exact hcan.1.get top htl
    have HT := hid htt
    clear htt
    go_enter Tryd.func49, Tryd.ntmps49
    go_wp2_with (first
      | (go_at_call 64; refine (trim64 _ n c xs _ h).mono ?_; rw [← HY.out, ← HM.out]; rintro e w' ⟨rfl, rfl⟩)
      | (go_at_call 83; refine (len64_any t htb _).mono ?_; rintro e w' ⟨l, hl, HL, rfl, rfl⟩)
      | (at_make; refine wl_make _ rfl _ _ 23 rfl 37 .u16 2 Tryd.underlying23 (by kernel_rfl) _ _ _ _ rfl rfl (top * 4 + (l + 15) / 16) (by omega) (by omega) (by omega) (by omega) ?_; intro w1 hr1 hg1))
    have hsz := unpack_size ys hcan.1 top l (by rw [← HM.out]) t (by rw [HT.out]; exact List.getElem?_eq_getElem htl) (by
      rw [HT.out]; intro hz; apply hcan.2
      rw [List.getLast?_eq_getElem?, show ys.length - 1 = top by rw [← HM.out]; omega, List.getElem?_eq_getElem htl, hz]) HL.out
    have hl1 := hsz.2.2
    have HS := hid hsz
    obtain ⟨g, hg⟩ : ∃ g, g = w.heap.size := ⟨_, rfl⟩
    rw [← hg] at hr1 ⊢
    have HG := hid hg
    clear hsz hg
    obtain ⟨q, hq⟩ : ∃ q, q = top * 4 + (l + 15) / 16 := ⟨_, rfl⟩
    have hqi : (top : Int) * 4 + ((l : Int) + 15) / 16 = (q : Int) := by omega
    rw [hqi, ← hq]
    rw [← hq] at hr1
    have hqb : q ≤ 4000004 := by omega
    have HQ := hid hq
    clear hq hqi
    go_loopw [30] (fun i wr => ∃ k : Nat, ∃ cur : List Nat, k ≤ q ∧ i = .int .i64 k ∧ IRow wr g 37 .u16 cur ∧ w1.grownBy wr (some g) ∧ Hid (cur.length = q ∧ ∀ j, j < k → cur[j]? = some (V W64 ys / 65536 ^ j % 65536)))
      (fun i _ => q - (intOf i).toNat)
    case atStart => exact ⟨0, _, Nat.zero_le _, rfl, hr1, grown_refl _ _, hid ⟨by simp, fun j hj => by omega⟩⟩
    case round =>
      obtain ⟨k, cur, hk, rfl, hrow, hgr, HC⟩ := hrel
      by_cases hlt : k < q
      · have hk4 : k / 4 < ys.length := by rw [← HM.out]; have := HQ.out; omega
        obtain ⟨b', o', hbo, hc4⟩ := ht.cel (k / 4) hk4
        cases hbo
        have hc4' := (hg1.cell hc4 (by simp))
        have hc4'' := hgr.cell hc4' (by
          intro e
          have := World.block_lt_of_cell? _ _ hc4
          have h2 := HG.out
          simp at e this; omega)
        obtain ⟨x, hx⟩ : ∃ x, x = ys[k / 4] := ⟨_, rfl⟩
        rw [← hx] at hc4''
        have hxb : x < W64 := by rw [hx]; exact hcan.1.get _ hk4
        have HX := hid hx
        have hcl : k < cur.length := by rw [HC.out.1]; exact hlt
        have hcc := hrow.cell k hcl
        have hfr := hrow.free k
        obtain ⟨y, hy⟩ : ∃ y, y = cur[k] := ⟨_, rfl⟩
        rw [← hy] at hcc
        clear hc4 hc4' hx hy hcell
        have hk0 : (0 : Int) ≤ (k : Int) / 4 := by omega
        have hk1 : (k : Int) / 4 < (top : Int) + 1 := by have := HQ.out; omega
        go_wp2_with (refine wl_shr _ rfl _ _ (.tmp 39) (.tmp 42) rfl .u64 .i64 x (k % 4 * 16) _ rfl rfl (by omega) (by have : k % 4 < 4 := Nat.mod_lt _ (by decide); show _ ≤ 64; omega) ?_; intro z HZ hz)
        refine ⟨⟨k + 1, _, by omega, rfl, hrow.setv k _ (z % 65536) (by rw [IntKind.wrap_u16]; omega), grown_trans hgr (grown_setCell _ _ _), hid ⟨by simpa using HC.out.1, fun j hj => ?_⟩⟩, by simp [intOf]; omega⟩
        by_cases hjk : j = k
        · subst hjk
          rw [List.getElem?_set_self hcl, HZ.out, HX.out, dig_get (B := W64) ys hcan.1 _ hk4, limb_of_word]
        · rw [List.getElem?_set_ne (Ne.symm hjk)]
          exact HC.out.2 j (by omega)
      · obtain rfl : k = q := by omega
        clear hcell
        go_wp2
        go_ret
        have hS := HS.out
        rw [← HQ.out] at hS
        have e : cur = dg 65536 (V W64 xs) := by
          rw [← HV.out, ← eq_tab (by omega) _ k hS.1 (.inr hS.2.1)]
          apply List.ext_getElem (by simp [HC.out.1])
          intro j h1 h2
          have := HC.out.2 j (by rw [HC.out.1] at h1; exact h1)
          rw [List.getElem?_eq_getElem h1] at this
          simp only [Option.some.injEq] at this
          rw [this, tab_get]
        have hlen : k = (dg 65536 (V W64 xs)).length := by rw [← e, HC.out.1]
        rw [← hlen, ← e]
        have hrd := hrow.rd0 (by rw [HC.out.1]; omega)
        rw [HC.out.1] at hrd
        exact ⟨_, _, rfl, hrd, grown_new hg1 hgr (fun g' e' => by cases e'; rw [HG.out]; exact Nat.le_refl _)⟩
end Go.Proofs.YtnfmjlomiihcnaaDoor

/-
  Contracts of natural.Of and natural.pack.
-/
set_option linter.unusedVariables false
set_option linter.unusedSimpArgs false
namespace Go.Proofs.YtnfmjlomiihcnaaDoor
open Go.RowKit Nm

theorem dg1 (x : Nat) (hx : x < W64) : Dg W64 [x] := fun y hy => by rw [List.mem_singleton.1 hy]; exact hx

theorem of_any (x : Nat) (hx : x < W64) (w : World) :
    Calls Tryd.prog 43 #[.int .u64 x] w fun e w' => ∃ a' c', e = .returned (.slice a' (dg 65536 x).length c') ∧ IRd w' .u16 a' (dg 65536 x).length c' (dg 65536 x) ∧ w.grownBy w' none := by
  have hrow : IRow (w.alloc (.cells #[.int .u64 x] 59)) w.heap.size 59 .u64 [x] := IRow.made w _ _ [x]
  have hrd := hrow.rd0 (by simp)
  have hg := World.grownBy_alloc w (.cells #[.int .u64 x] 59) none
  go_enter Tryd.func43, Tryd.ntmps43
  go_wp2_with (go_at_call 49; refine (unpack_any _ _ _ [x] _ hrd (dg1 x hx) (by simp)).mono ?_; rintro e w' ⟨a', c', rfl, h1, h2⟩)
  go_ret
  simp only [V_cons, V_nil, Nat.mul_zero, Nat.add_zero] at h1 ⊢
  exact ⟨a', c', rfl, h1, grown_trans hg h2⟩

set_option maxHeartbeats 1000000 in
theorem pack_any (a : Option Addr) (n c : Nat) (xs : List Nat) (w : World) (h : IRd w .u16 a n c xs) (hd : Dg 65536 xs) (hn : n ≤ 1000000) :
    Calls Tryd.prog 47 #[.slice a n c] w fun e w' => ∃ m ys, e = .returned (.slice (some ⟨w.heap.size, 0, none⟩) m m) ∧ IRow w' w.heap.size 59 .u64 ys ∧ Hid (m = (n + 3) / 4 ∧ ys.length = m ∧ V W64 ys = V 65536 xs ∧ Dg W64 ys) ∧ w.grownBy w' none := by
  have hmax := h.max
  have hcap := h.cap
  have HL := hid h.len
  obtain ⟨g, hg⟩ : ∃ g, g = w.heap.size := ⟨_, rfl⟩
  obtain ⟨m, hm⟩ : ∃ m, m = (n + 3) / 4 := ⟨_, rfl⟩
  have hmi : ((n : Int) + 4 - 1) / 4 = (m : Int) := by omega
  have hmb : m ≤ 250001 := by omega
  have HM := hid hm
  go_enter Tryd.func47, Tryd.ntmps47
  clear hm
  go_wp2_with (first
      | (at_make; refine wl_make _ rfl _ _ 61 rfl 59 .u64 8 Tryd.underlying61 (by kernel_rfl) _ _ _ _ rfl rfl m (by omega) (by omega) (by omega) (by omega) ?_; intro w1 hr1 hg1))
  rw [← hg] at hr1 ⊢
  have HG := hid hg
  clear hg hmi
  go_loopw [14] (fun i wr => ∃ k : Nat, ∃ cur : List Nat, k ≤ m ∧ i = .int .i64 k ∧ IRow wr g 59 .u64 cur ∧ w1.grownBy wr (some g) ∧ Hid (cur.length = m ∧ ∀ j, j < k → cur[j]? = some (V 65536 ((xs.drop (j * 4)).take 4))))
      (fun i _ => m - (intOf i).toNat)
  case atStart => exact ⟨0, _, Nat.zero_le _, rfl, hr1, grown_refl _ _, hid ⟨by simp, fun j hj => by omega⟩⟩
  case round =>
    obtain ⟨k, cur, hk, rfl, hrow, hgr, HC⟩ := hrel
    by_cases hlt : k < m
    · have hkn : k * 4 < n := by have := HM.out; omega
      obtain ⟨b, o, rfl, hb⟩ := h.cel 0 (by rw [HL.out]; omega)
      have hbl := World.block_lt_of_cell? _ _ hb
      clear hb
      have hrd := (h.keep hg1).kept hgr (.inr (by intro p hp e; cases hp; have := HG.out; simp at e hbl; omega))
      obtain ⟨hi, hhi⟩ : ∃ hi, hi = min (k * 4 + 4) n := ⟨_, rfl⟩
      have hhi1 : (k * 4 : Int) ≤ hi := by omega
      have hhi2 : (hi : Int) ≤ n := by omega
      have hhi3 : min ((k : Int) * 4 + 4) (n : Int) = hi := by omega
      have hsub := hrd.cut (k * 4) hi (c - k * 4) (by omega) (by omega) (by omega) (by omega)
      have hcl : k < cur.length := by rw [HC.out.1]; exact hlt
      have hcc := hrow.cell k hcl
      have hfr := hrow.free k
      obtain ⟨y, hy⟩ : ∃ y, y = cur[k] := ⟨_, rfl⟩
      rw [← hy] at hcc
      have HHI := hid hhi
      clear hy hhi
      have hck : ¬ (c = k * 4) := by omega
      have hseg : (xs.drop (k * 4)).take (hi - k * 4) = (xs.drop (k * 4)).take 4 := by
        have := HHI.out
        rcases Nat.le_total (k * 4 + 4) n with h4 | h4
        · rw [Nat.min_eq_left h4] at this
          rw [this]; congr 1; omega
        · rw [Nat.min_eq_right h4] at this
          rw [List.take_of_length_le (by rw [List.length_drop, HL.out]; omega), List.take_of_length_le (by rw [List.length_drop, HL.out]; omega)]
      rw [hseg] at hsub
      have hdz : Dg 65536 ((xs.drop (k * 4)).take 4) := (hd.drop _).take _
      obtain ⟨zs, hzs⟩ : ∃ zs, zs = (xs.drop (k * 4)).take 4 := ⟨_, rfl⟩
      rw [← hzs] at hsub hdz
      have HZ := hid hzs
      clear hseg hzs
      have hw : ∀ W', Hid (W' = wr) → ∀ ln, Hid (ln = hi - k * 4) → Calls Tryd.prog 46 #[.slice (some ⟨b, o + k * 4, none⟩) ln (c - k * 4)] W' fun e w' => ∃ v : Nat, e = .returned (.int .u64 v) ∧ Hid (v = V 65536 zs) ∧ W' = w' := by
        intro W' hW ln hln
        rw [hW.out, hln.out]
        exact (word_any _ _ _ zs _ hsub hdz (by omega)).mono fun e w' ⟨h1, h2⟩ => ⟨_, h1, hid rfl, h2⟩
      have HW := hid hw
      clear hw
      go_wp2_with (go_at_call 46; refine (HW.out _ (hid rfl) _ (by have := HHI.out; show _ = _; omega)).mono ?_; rintro e w' ⟨v, rfl, HV, rfl⟩)
      all_goals
        refine ⟨⟨k + 1, _, by omega, rfl, hrow.setv k _ v rfl, grown_trans hgr (grown_setCell _ _ _), hid ⟨by simpa using HC.out.1, fun j hj => ?_⟩⟩, by simp [intOf]; omega⟩
        by_cases hjk : j = k
        · subst hjk
          rw [List.getElem?_set_self hcl, HV.out, HZ.out]
        · rw [List.getElem?_set_ne (Ne.symm hjk)]
          exact HC.out.2 j (by omega)
    · obtain rfl : k = m := by omega
      go_wp2
      go_ret
      have e : cur = tab k fun i => V 65536 ((xs.drop (i * 4)).take 4) := by
        apply List.ext_getElem (by simp [HC.out.1])
        intro j h1 h2
        have := HC.out.2 j (by rw [HC.out.1] at h1; exact h1)
        rw [List.getElem?_eq_getElem h1] at this
        simp only [Option.some.injEq] at this
        rw [this, tab_get]
      have hv : V W64 cur = V 65536 xs := by
        rw [e, W64_eq]
        exact V_chunks 4 k xs (by have := HM.out; rw [HL.out]; omega)
      have hdg : Dg W64 cur := by
        rw [e]; intro x hx
        obtain ⟨i, _, rfl⟩ := List.mem_map.1 hx
        rw [W64_eq]
        exact V_word ((hd.drop _).take _) 4 (by rw [List.length_take]; omega)
      exact ⟨k, cur, by rw [HG.out]; rfl, by rw [← HG.out]; exact hrow, hid ⟨HM.out, HC.out.1, hv, hdg⟩, grown_new hg1 hgr (fun g' e' => by cases e'; rw [HG.out]; exact Nat.le_refl _)⟩
end Go.Proofs.YtnfmjlomiihcnaaDoor

/-
  Contracts of cmp.Compare and natural.Cmp.
-/
set_option linter.unusedVariables false
set_option linter.unusedSimpArgs false
namespace Go.Proofs.YtnfmjlomiihcnaaDoor
open Go.RowKit Nm

/-- the order of two numbers as -1, 0, 1 -/
def cmpI (x y : Int) : Int := if x < y then -1 else if y < x then 1 else 0

theorem cmpInt_any (x y : Int) (w : World) :
    Calls Tryd.prog 72 #[.int .i64 x, .int .i64 y] w fun e w' => e = .returned (.int .i64 (cmpI x y)) ∧ w = w' := by
  by_cases h : x < y
  · have e : cmpI x y = -1 := if_pos h
    rw [e]
    go_enter Tryd.func72, Tryd.ntmps72
    go_wp2
    go_ret
    exact ⟨rfl, rfl⟩
  · by_cases h2 : y < x
    · have e : cmpI x y = 1 := by unfold cmpI; rw [if_neg h, if_pos h2]
      rw [e]
      go_enter Tryd.func72, Tryd.ntmps72
      go_wp2
      go_ret
      exact ⟨rfl, rfl⟩
    · have e : cmpI x y = 0 := by unfold cmpI; rw [if_neg h, if_neg h2]
      rw [e]
      go_enter Tryd.func72, Tryd.ntmps72
      go_wp2
      go_ret
      exact ⟨rfl, rfl⟩

theorem cmp16_any (x y : Int) (w : World) :
    Calls Tryd.prog 73 #[.int .u16 x, .int .u16 y] w fun e w' => e = .returned (.int .i64 (cmpI x y)) ∧ w = w' := by
  by_cases h : x < y
  · have e : cmpI x y = -1 := if_pos h
    rw [e]
    go_enter Tryd.func73, Tryd.ntmps73
    go_wp2
    go_ret
    exact ⟨rfl, rfl⟩
  · by_cases h2 : y < x
    · have e : cmpI x y = 1 := by unfold cmpI; rw [if_neg h, if_pos h2]
      rw [e]
      go_enter Tryd.func73, Tryd.ntmps73
      go_wp2
      go_ret
      exact ⟨rfl, rfl⟩
    · have e : cmpI x y = 0 := by unfold cmpI; rw [if_neg h, if_neg h2]
      rw [e]
      go_enter Tryd.func73, Tryd.ntmps73
      go_wp2
      go_ret
      exact ⟨rfl, rfl⟩

theorem cmpI_lt {x y : Nat} (h : x < y) : cmpI x y = -1 := if_pos (by omega)
theorem cmpI_gt {x y : Nat} (h : y < x) : cmpI x y = 1 := by unfold cmpI; rw [if_neg (by omega), if_pos (by omega)]
theorem cmpI_eq (x : Int) : cmpI x x = 0 := by unfold cmpI; rw [if_neg (by omega), if_neg (by omega)]
theorem cmpI_congr {x y x' y' : Nat} (h1 : x < y → x' < y') (h2 : y < x → y' < x') (h3 : x = y → x' = y') : cmpI x y = cmpI x' y' := by
  rcases Nat.lt_trichotomy x y with h | h | h
  · rw [cmpI_lt h, cmpI_lt (h1 h)]
  · have := h3 h; subst h; subst this; rw [cmpI_eq, cmpI_eq]
  · rw [cmpI_gt h, cmpI_gt (h2 h)]

set_option maxHeartbeats 1000000 in
theorem natCmp_any (a b : Option Addr) (n m c d : Nat) (xs ys : List Nat) (w : World) (h : IRd w .u16 a n c xs) (k : IRd w .u16 b m d ys) (hx : Dg 65536 xs) (hy : Dg 65536 ys) :
    Calls Tryd.prog 25 #[.slice a n c, .slice b m d] w fun e w' => e = .returned (.int .i64 (cmpI (V 65536 xs : Nat) (V 65536 ys : Nat))) ∧ w.grownBy w' none := by
  have hmax := h.max
  have hcap := h.cap
  have kmax := k.max
  have kcap := k.cap
  have ht := h.take (trimR xs).length (by rw [← h.len]; exact trimR_length_le xs)
  have kt := k.take (trimR ys).length (by rw [← k.len]; exact trimR_length_le ys)
  rw [← trimR_eq_take] at ht kt
  have hcx := Can_trimR hx
  have hcy := Can_trimR hy
  have hvx := V_trimR (B := 65536) xs
  have hvy := V_trimR (B := 65536) ys
  rw [← hvx, ← hvy]
  have T1 := fun W (H : IRd W .u16 a n c xs) => trim16 a n c xs W H
  have T2 := fun W (H : IRd W .u16 b m d ys) => trim16 b m d ys W H
  have hnl : (trimR xs).length ≤ n := by rw [← h.len]; exact trimR_length_le xs
  have hml : (trimR ys).length ≤ m := by rw [← k.len]; exact trimR_length_le ys
  clear hvx hvy
  generalize trimR xs = us at *
  generalize trimR ys = vs at *
  have t1 := T1 w h
  have t2 := T2 w k
  have R1 := hid t1
  have R2 := hid t2
  clear t1 t2 T1 T2 h k
  by_cases hl : us.length = vs.length
  · obtain ⟨l, hl1⟩ : ∃ l, l = us.length := ⟨_, rfl⟩
    rw [← hl, ← hl1] at kt
    rw [← hl1] at ht hnl
    rw [← hl, ← hl1] at hml
    rw [← hl1] at R1
    rw [← hl, ← hl1] at R2
    have HL := hid hl
    have HL1 := hid hl1
    clear hl hl1
    go_enter Tryd.func25, Tryd.ntmps25
    go_wp2_with (first
      | (go_at_call 44; (with_reducible refine (R1.out).mono ?_); rintro e w' ⟨rfl, rfl⟩)
      | (go_at_call 44; (with_reducible refine (R2.out).mono ?_); rintro e w' ⟨rfl, rfl⟩))
    go_loopw [5] (fun i wr => ∃ k : Nat, k ≤ l ∧ i = .int .i64 ((k : Int) - 1) ∧ w.grownBy wr none ∧ Hid (us.drop k = vs.drop k)) (fun i _ => (intOf i + 1).toNat)
    case atStart => exact ⟨l, Nat.le_refl _, rfl, grown_refl _ _, hid (by rw [List.drop_of_length_le (by rw [HL1.out]; exact Nat.le_refl _), List.drop_of_length_le (by rw [← HL.out, HL1.out]; exact Nat.le_refl _)])⟩
    case round =>
      obtain ⟨k, hk, rfl, hgr, HD⟩ := hrel
      by_cases h0 : 0 < k
      · obtain ⟨i, rfl⟩ : ∃ i, k = i + 1 := ⟨k - 1, by omega⟩
        have hiu : i < us.length := by rw [← HL1.out]; omega
        have hiv : i < vs.length := by rw [← HL.out, ← HL1.out]; omega
        obtain ⟨b1, o1, rfl, hc1⟩ := ht.cel i hiu
        obtain ⟨b2, o2, rfl, hc2⟩ := kt.cel i hiv
        have hd1 := hgr.cell hc1 (by simp)
        have hd2 := hgr.cell hc2 (by simp)
        obtain ⟨x, hx'⟩ : ∃ x, x = us[i] := ⟨_, rfl⟩
        obtain ⟨y, hy'⟩ : ∃ y, y = vs[i] := ⟨_, rfl⟩
        rw [← hx'] at hd1
        rw [← hy'] at hd2
        have HX := hid hx'
        have HY := hid hy'
        clear hc1 hc2 hx' hy'
        have hi0 : (0 : Int) ≤ (i : Int) := by omega
        have hil : (i : Int) < (l : Int) := by omega
        by_cases hxy : x = y
        · subst hxy
          have hd3 : us.drop i = vs.drop i := by
            rw [List.drop_eq_getElem_cons hiu, List.drop_eq_getElem_cons hiv, HD.out, ← HX.out, ← HY.out]
          have HD3 := hid hd3
          clear hd3
          have hne : (((x : Int) != (x : Int)) = false) := by simp
          go_wp2
          go_quiet (fail)
          go_wp2
          exact ⟨⟨i, by omega, rfl, grown_trans hgr (grown_drewN _ _ _), HD3⟩, by simp [intOf]⟩
        · have hne : (((x : Int) != (y : Int)) = true) := by simp; omega
          go_wp2
          go_quiet (fail)
          go_wp2
          go_quiet ((go_at_call 73; exact quiet_more (cmp16_any _ _ _)))
          go_wp2
          go_ret
          refine ⟨ret_eq (congrArg _ (cmpI_congr ?_ ?_ ?_)), gdN (gdN hgr _) _⟩
          · intro hlt
            exact cmp_of_top i hcx.1 (by rw [HL.out]) hiu HD.out (by rw [← HX.out, ← HY.out]; exact hlt)
          · intro hlt
            exact cmp_of_top i hcy.1 (by rw [HL.out]) hiv HD.out.symm (by rw [← HX.out, ← HY.out]; exact hlt)
          · intro h; exact absurd h hxy
      · obtain rfl : k = 0 := by omega
        go_wp2
        go_ret
        have : us = vs := by simpa using HD.out
        rw [this, cmpI_eq]
        exact ⟨rfl, hgr⟩
  · have hne : (((us.length : Int) != (vs.length : Int)) = true) := by simp; omega
    go_enter Tryd.func25, Tryd.ntmps25
    go_wp2_with (first
      | (go_at_call 44; (with_reducible refine (R1.out).mono ?_); rintro e w' ⟨rfl, rfl⟩)
      | (go_at_call 44; (with_reducible refine (R2.out).mono ?_); rintro e w' ⟨rfl, rfl⟩)
      | (go_at_call 72; refine (cmpInt_any _ _ _).mono ?_; rintro e w' ⟨rfl, rfl⟩))
    go_ret
    refine ⟨ret_eq (congrArg _ (cmpI_congr ?_ ?_ ?_)), grown_refl _ _⟩
    · exact fun hlt => Can.lt_of_length (by omega) hcx.1 hcy hlt
    · exact fun hlt => Can.lt_of_length (by omega) hcy.1 hcx hlt
    · intro h; exact absurd h hl
end Go.Proofs.YtnfmjlomiihcnaaDoor

/-
  Contract of natural.Add.
-/
set_option linter.unusedVariables false
set_option linter.unusedSimpArgs false
namespace Go.Proofs.YtnfmjlomiihcnaaDoor
open Go.RowKit Nm

theorem splice_zeros (xs : List Nat) (n : Nat) (h : xs.length ≤ n) : splice (List.replicate n 0) 0 xs = xs ++ List.replicate (n - xs.length) 0 := by
  simp [splice]

theorem add_lt {ps qs : List Nat} (hp : Dg 65536 ps) (hq : Dg 65536 qs) (h : qs.length ≤ ps.length) : V 65536 ps + V 65536 qs < 65536 ^ (ps.length + 1) := by
  have h1 := hp.lt
  have h2 := hq.lt
  have h3 : 65536 ^ qs.length ≤ 65536 ^ ps.length := Nat.pow_le_pow_right (by omega) h
  rw [Nat.pow_succ]; omega

/-- a carry at place k of a sum that has no more than l places -/
theorem carry_place {B v k c N l : Nat} (e : v + B ^ k * c = N) (hN : N < B ^ l) (hc : c ≠ 0) (hB : 1 < B) : k < l := by
  refine Nat.lt_of_not_le fun h => ?_
  have h1 : B ^ l ≤ B ^ k := Nat.pow_le_pow_right (by omega) h
  have h2 : B ^ k * 1 ≤ B ^ k * c := Nat.mul_le_mul_left _ (by omega)
  omega

set_option maxHeartbeats 2000000 in
theorem natAdd_any (a b : Option Addr) (n m c d : Nat) (xs ys : List Nat) (w : World) (h : IRd w .u16 a n c xs) (k : IRd w .u16 b m d ys) (hx : Dg 65536 xs) (hy : Dg 65536 ys) (hn : n ≤ 900000) (hm : m ≤ 900000) :
    Calls Tryd.prog 22 #[.slice a n c, .slice b m d] w fun e w' => ∃ a' c', e = .returned (.slice a' (dg 65536 (V 65536 xs + V 65536 ys)).length c') ∧
      IRd w' .u16 a' (dg 65536 (V 65536 xs + V 65536 ys)).length c' (dg 65536 (V 65536 xs + V 65536 ys)) ∧ w.grownBy w' none := by
  have hmax := h.max
  have hcap := h.cap
  have kmax := k.max
  have kcap := k.cap
  have ht := h.take (trimR xs).length (by rw [← h.len]; exact trimR_length_le xs)
  have kt := k.take (trimR ys).length (by rw [← k.len]; exact trimR_length_le ys)
  rw [← trimR_eq_take] at ht kt
  have hcx := Can_trimR hx
  have hcy := Can_trimR hy
  have hvx := V_trimR (B := 65536) xs
  have hvy := V_trimR (B := 65536) ys
  have R1 := hid (trim16 a n c xs w h)
  have R2 := hid (trim16 b m d ys w k)
  have hnl : (trimR xs).length ≤ n := by rw [← h.len]; exact trimR_length_le xs
  have hml : (trimR ys).length ≤ m := by rw [← k.len]; exact trimR_length_le ys
  obtain ⟨N, hN⟩ : ∃ N, N = V 65536 xs + V 65536 ys := ⟨_, rfl⟩
  rw [← hN]
  rw [← hvx, ← hvy] at hN
  generalize trimR xs = us at *
  generalize trimR ys = vs at *
  have HN := hid hN
  clear hvx hvy h k hN
  go_enter Tryd.func22, Tryd.ntmps22
  go_upto_if 18 with (first
      | (go_at_call 44; (with_reducible refine (R1.out).mono ?_); rintro e w' ⟨rfl, rfl⟩)
      | (go_at_call 44; (with_reducible refine (R2.out).mono ?_); rintro e w' ⟨rfl, rfl⟩))
  go_cut [0, 1] (fun s0 s1 wx => ∃ (p q : Option Addr) (ps qs : List Nat) (c1 c2 : Nat), s0 = .slice p ps.length c1 ∧ s1 = .slice q qs.length c2 ∧ IRd wx .u16 p ps.length c1 ps ∧ IRd wx .u16 q qs.length c2 qs ∧
    qs.length ≤ ps.length ∧ ps.length ≤ 900000 ∧ Hid (N = V 65536 ps + V 65536 qs ∧ Dg 65536 ps ∧ Dg 65536 qs) ∧ w.grownBy wx none)
  case first =>
    by_cases hlt : us.length < vs.length
    · go_wp2
      go_meet
      exact ⟨b, a, vs, us, d, c, rfl, rfl, kt, ht, by omega, by omega, hid ⟨by rw [HN.out]; omega, hcy.1, hcx.1⟩, grown_refl _ _⟩
    · go_wp2
      go_meet
      exact ⟨a, b, us, vs, c, d, rfl, rfl, ht, kt, by omega, by omega, hid ⟨HN.out, hcx.1, hcy.1⟩, grown_refl _ _⟩
  case rest =>
    obtain ⟨p, q, ps, qs, c1, c2, rfl, rfl, hp, hq, hle, hpb, HN', hgx⟩ := hcut
    have HL := hid hp.len
    have hpc := hp.cap
    have hpm := hp.max
    have hqm := hq.max
    have hqc := hq.cap
    have hNl : N < 65536 ^ (ps.length + 1) := by rw [HN'.out.1]; exact add_lt HN'.out.2.1 HN'.out.2.2 hle
    have HNL := hid hNl
    clear hNl
    obtain ⟨g, hg⟩ : ∃ g, g = wc.heap.size := ⟨_, rfl⟩
    go_wp2_with (first
      | (at_make; refine wl_make _ rfl _ _ 23 rfl 37 .u16 2 Tryd.underlying23 (by kernel_rfl) _ _ _ _ rfl rfl (ps.length + 1) (by omega) (by omega) (by omega) (by omega) ?_; intro w1 hr1 hg1)
      | (with_reducible refine wl_copy _ rfl (.tmp 25) (.tmp 26) 23 23 rfl 37 Tryd.underlying23 (by kernel_rfl) .u16 _ _ _ _ _ _ rfl rfl wc.heap.size 0 37 _ ps hr1 (fun _ => rfl) (hp.keep hg1) (by simp) ?_; intro w2 hr2 hg2))
    rw [List.take_of_length_le (by omega), splice_zeros _ _ (by omega)] at hr2
    rw [← hg] at hr2 hg2 ⊢
    have hg3 : wc.grownBy w2 none := grown_new hg1 hg2 (fun g' e => by cases e; rw [hg]; exact Nat.le_refl _)
    have HG := hid hg
    clear hg hr1 hg2
    go_loopw [6, 30] (fun s6 i wr => ∃ (k cy : Nat) (cur : List Nat), k ≤ qs.length ∧ i = .int .i64 k ∧ s6 = .int .u32 cy ∧ cy ≤ 1 ∧ IRow wr g 37 .u16 cur ∧ w2.grownBy wr (some g) ∧
        Hid (cur.length = ps.length + 1 ∧ Dg 65536 cur ∧ V 65536 cur + 65536 ^ k * cy = V 65536 ps + V 65536 (qs.take k))) (fun _ i _ => qs.length - (intOf i).toNat)
    case atStart => exact ⟨0, 0, _, Nat.zero_le _, rfl, rfl, by omega, hr2, grown_refl _ _, hid ⟨by simp, HN'.out.2.1.append (Dg.zeros (by omega) _), by simp [V_append, V_zeros]⟩⟩
    case round =>
      obtain ⟨k, cy, cur, hk, rfl, rfl, hcy1, hrow, hgr, HC⟩ := hrel
      by_cases hlt : k < qs.length
      · obtain ⟨b', o', rfl, hc1⟩ := hq.cel k hlt
        have hbl := World.block_lt_of_cell? _ _ hc1
        have hc2 := hgr.cell (hg3.cell hc1 (by simp)) (by intro e; have := HG.out; simp at e hbl; omega)
        obtain ⟨y, hy⟩ : ∃ y, y = qs[k] := ⟨_, rfl⟩
        rw [← hy] at hc2
        have hyb : y < 65536 := by rw [hy]; exact HN'.out.2.2.get k hlt
        have hcl : k < cur.length := by rw [HC.out.1]; omega
        have hcc := hrow.cell k hcl
        have hfr := hrow.free k
        obtain ⟨x, hx⟩ : ∃ x, x = cur[k] := ⟨_, rfl⟩
        rw [← hx] at hcc
        have hxb : x < 65536 := by rw [hx]; exact HC.out.2.1.get k hcl
        have HX := hid hx
        have HY := hid hy
        clear hx hy hc1 hbl
        have hk1 : (k : Int) < (ps.length : Int) + 1 := by omega
        go_wp2
        have hs := step_add (B := 65536) cur k ((cy + (x + y)) % 65536) ((cy + (x + y)) / 65536) (cy + y) hcl (by rw [← HX.out]; omega)
        have hv := V_take_succ (B := 65536) qs k hlt
        rw [← HY.out] at hv
        refine ⟨⟨k + 1, (cy + (x + y)) / 65536, _, by omega, rfl, by congr 1, by omega, hrow.setv k _ ((cy + (x + y)) % 65536) (by rw [IntKind.wrap_u16]; omega), grown_trans hgr (grown_setCell _ _ _),
          hid ⟨by simpa using HC.out.1, HC.out.2.1.set _ _ (Nat.mod_lt _ (by omega)), ?_⟩⟩, by simp [intOf]; omega⟩
        rw [hs, hv, Nat.mul_add]
        have := HC.out.2.2
        omega
      · obtain rfl : k = qs.length := by omega
        have HC' : Hid (cur.length = ps.length + 1 ∧ Dg 65536 cur ∧ V 65536 cur + 65536 ^ qs.length * cy = N) := hid ⟨HC.out.1, HC.out.2.1, by
          have := HC.out.2.2
          rw [List.take_of_length_le (Nat.le_refl _)] at this
          rw [HN'.out.1]; exact this⟩
        clear HC
        go_wp2_with fail
        go_loopw [6, 9] (fun s6 i wq => ∃ (k cy : Nat) (cur : List Nat), k ≤ ps.length + 1 ∧ i = .int .i64 k ∧ s6 = .int .u32 cy ∧ cy ≤ 1 ∧ IRow wq g 37 .u16 cur ∧ w2.grownBy wq (some g) ∧
            Hid (cur.length = ps.length + 1 ∧ Dg 65536 cur ∧ V 65536 cur + 65536 ^ k * cy = N)) (fun _ i _ => ps.length + 1 - (intOf i).toNat)
        case atStart => exact ⟨qs.length, cy, cur, by omega, rfl, rfl, hcy1, hrow, hgr, HC'⟩
        case round =>
          obtain ⟨k, cy, cur, hk, rfl, rfl, hcy1, hrow, hgr, HC⟩ := hrel
          by_cases hz : cy = 0
          · have hne : (((cy : Int) != 0) = false) := by simp [hz]
            have hrd := hrow.rd0 (by rw [HC.out.1]; omega)
            rw [HC.out.1] at hrd
            have HR := hid (trim16 _ _ _ cur _ hrd)
            have HD := hid (hrd.take (trimR cur).length (by rw [← HC.out.1]; exact trimR_length_le cur))
            clear hrd
            go_wp2_with (go_at_call 44; refine HR.out.mono ?_; rintro e w' ⟨rfl, rfl⟩)
            go_ret
            have e1 : trimR cur = dg 65536 N := by
              rw [trimR_dg (by omega) HC.out.2.1]
              have := HC.out.2.2
              rw [hz, Nat.mul_zero, Nat.add_zero] at this
              rw [this]
            have hd := HD.out
            rw [← trimR_eq_take, e1] at hd
            rw [← e1] at hd ⊢
            exact ⟨_, _, rfl, hd, grown_new (grown_trans hgx hg3) hgr (fun g' e' => by cases e'; rw [HG.out]; exact hgx.size)⟩
          · have hkl := carry_place HC.out.2.2 HNL.out hz (by omega)
            have hne : (((cy : Int) != 0) = true) := by simp; omega
            have hcl : k < cur.length := by rw [HC.out.1]; exact hkl
            have hcc := hrow.cell k hcl
            have hfr := hrow.free k
            obtain ⟨x, hx⟩ : ∃ x, x = cur[k] := ⟨_, rfl⟩
            rw [← hx] at hcc
            have hxb : x < 65536 := by rw [hx]; exact HC.out.2.1.get k hcl
            have HX := hid hx
            clear hx
            have hk1 : (k : Int) < (ps.length : Int) + 1 := by omega
            go_wp2
            have hs := step_add (B := 65536) cur k ((cy + x) % 65536) ((cy + x) / 65536) cy hcl (by rw [← HX.out]; omega)
            refine ⟨⟨k + 1, (cy + x) / 65536, _, by omega, rfl, by congr 1, by omega, hrow.setv k _ ((cy + x) % 65536) (by rw [IntKind.wrap_u16]; omega), grown_trans hgr (grown_setCell _ _ _),
              hid ⟨by simpa using HC.out.1, HC.out.2.1.set _ _ (Nat.mod_lt _ (by omega)), by rw [hs]; exact HC.out.2.2⟩⟩, by simp [intOf]; omega⟩
end Go.Proofs.YtnfmjlomiihcnaaDoor

/-
  Contracts of natural.Sub.
-/
set_option linter.unusedVariables false
set_option linter.unusedSimpArgs false
namespace Go.Proofs.YtnfmjlomiihcnaaDoor
open Go.RowKit Nm

/-- a borrow at place k of a difference that is not negative -/
theorem borrow_place {B v k c M N l : Nat} (e : v + N = M + B ^ k * c) (hN : N ≤ M) (hv : v < B ^ l) (hc : c ≠ 0) (hB : 1 < B) : k < l := by
  refine Nat.lt_of_not_le fun h => ?_
  have h1 : B ^ l ≤ B ^ k := Nat.pow_le_pow_right (by omega) h
  have h2 : B ^ k * 1 ≤ B ^ k * c := Nat.mul_le_mul_left _ (by omega)
  omega

theorem natSub_err (a b : Option Addr) (n m c d : Nat) (xs ys : List Nat) (w : World) (h : IRd w .u16 a n c xs) (k : IRd w .u16 b m d ys) (hx : Dg 65536 xs) (hy : Dg 65536 ys) (hlt : V 65536 xs < V 65536 ys) :
    Calls Tryd.prog 69 #[.slice a n c, .slice b m d] w fun e w' => e = .returned (.tuple #[.slice none 0 0, .int .i64 2]) ∧ w.grownBy w' none := by
  have ht := h.take (trimR xs).length (by rw [← h.len]; exact trimR_length_le xs)
  have kt := k.take (trimR ys).length (by rw [← k.len]; exact trimR_length_le ys)
  rw [← trimR_eq_take] at ht kt
  have hcx := Can_trimR hx
  have hcy := Can_trimR hy
  have hvx := V_trimR (B := 65536) xs
  have hvy := V_trimR (B := 65536) ys
  have R1 := hid (trim16 a n c xs w h)
  have R2 := hid (trim16 b m d ys w k)
  rw [← hvx, ← hvy] at hlt
  generalize trimR xs = us at *
  generalize trimR ys = vs at *
  have HC := hid (natCmp_any a b us.length vs.length c d us vs w ht kt hcx.1 hcy.1)
  have HLT := hid (cmpI_lt hlt)
  clear hvx hvy h k hlt
  go_enter Tryd.func69, Tryd.ntmps69
  go_wp2_with (first
      | (go_at_call 44; (with_reducible refine (R1.out).mono ?_); rintro e w' ⟨rfl, rfl⟩)
      | (go_at_call 44; (with_reducible refine (R2.out).mono ?_); rintro e w' ⟨rfl, rfl⟩)
      | (go_at_call 25; (with_reducible refine (HC.out).mono ?_); rw [HLT.out]; rintro e w1 ⟨rfl, hg1⟩))
  go_ret2
  exact ⟨rfl, hg1⟩

theorem borrow_bit (x y c : Nat) (hx : x < 65536) (hy : y < 65536) (hc : c ≤ 1) :
    bits .and .u32 (((x : Int) - y - c) % 4294967296 / 65536) 1 = ((if x < y + c then 1 else 0 : Nat) : Int) ∧ IntKind.u16.wrap (((x : Int) - y - c) % 4294967296) = (((x + 65536 - y - c) % 65536 : Nat) : Int) ∧
      (x + 65536 - y - c) % 65536 + (y + c) = x + 65536 * (if x < y + c then 1 else 0) := by
  refine ⟨?_, by rw [IntKind.wrap_u16]; omega, by split <;> omega⟩
  obtain ⟨z, hz⟩ : ∃ z : Nat, ((x : Int) - y - c) % 4294967296 / 65536 = (z : Int) := ⟨(((x : Int) - y - c) % 4294967296 / 65536).toNat, by omega⟩
  rw [hz, show (1 : Int) = ((1 : Nat) : Int) from rfl, u32_and_nat z 1 (by omega) (by omega), nat_mask1]
  split <;> omega

set_option maxHeartbeats 2000000 in
theorem natSub_ok (a b : Option Addr) (n m c d : Nat) (xs ys : List Nat) (w : World) (h : IRd w .u16 a n c xs) (k : IRd w .u16 b m d ys) (hx : Dg 65536 xs) (hy : Dg 65536 ys) (hn : n ≤ 900000) (hm : m ≤ 900000) (hle : V 65536 ys ≤ V 65536 xs) :
    Calls Tryd.prog 69 #[.slice a n c, .slice b m d] w fun e w' => ∃ a' c', e = .returned (.tuple #[.slice a' (dg 65536 (V 65536 xs - V 65536 ys)).length c', .int .i64 0]) ∧
      IRd w' .u16 a' (dg 65536 (V 65536 xs - V 65536 ys)).length c' (dg 65536 (V 65536 xs - V 65536 ys)) ∧ w.grownBy w' none := by
  have ht := h.take (trimR xs).length (by rw [← h.len]; exact trimR_length_le xs)
  have kt := k.take (trimR ys).length (by rw [← k.len]; exact trimR_length_le ys)
  rw [← trimR_eq_take] at ht kt
  have hcx := Can_trimR hx
  have hcy := Can_trimR hy
  have hvx := V_trimR (B := 65536) xs
  have hvy := V_trimR (B := 65536) ys
  have R1 := hid (trim16 a n c xs w h)
  have R2 := hid (trim16 b m d ys w k)
  have hnl : (trimR xs).length ≤ n := by rw [← h.len]; exact trimR_length_le xs
  have hml : (trimR ys).length ≤ m := by rw [← k.len]; exact trimR_length_le ys
  have hmax := h.max
  have hcap := h.cap
  have kmax := k.max
  have kcap := k.cap
  rw [← hvx, ← hvy] at hle ⊢
  generalize trimR xs = us at *
  generalize trimR ys = vs at *
  have HCMP := hid (natCmp_any a b us.length vs.length c d us vs w ht kt hcx.1 hcy.1)
  have hll : vs.length ≤ us.length := Nat.le_of_not_lt fun h => by have := Can.lt_of_length (by omega) hcx.1 hcy h; omega
  have hc0 : cmpI (V 65536 us) (V 65536 vs) = 0 ∨ cmpI (V 65536 us) (V 65536 vs) = 1 := by
    rcases Nat.lt_or_ge (V 65536 vs) (V 65536 us) with h1 | h1
    · exact .inr (cmpI_gt h1)
    · left; rw [show V 65536 us = V 65536 vs by omega, cmpI_eq]
  obtain ⟨s, hs⟩ : ∃ s, s = cmpI (V 65536 us) (V 65536 vs) := ⟨_, rfl⟩
  rw [← hs] at HCMP hc0
  have hs0 : 0 ≤ s := by omega
  obtain ⟨N, hN⟩ : ∃ N, N = V 65536 us - V 65536 vs := ⟨_, rfl⟩
  rw [← hN]
  have HN : Hid (N + V 65536 vs = V 65536 us) := hid (by omega)
  clear hvx hvy h k hN hs hc0
  have HLE := hid hle
  clear hle
  go_enter Tryd.func69, Tryd.ntmps69
  go_wp2_with (first
      | (go_at_call 44; (with_reducible refine (R1.out).mono ?_); rintro e w' ⟨rfl, rfl⟩)
      | (go_at_call 44; (with_reducible refine (R2.out).mono ?_); rintro e w' ⟨rfl, rfl⟩)
      | (go_at_call 25; (with_reducible refine (HCMP.out).mono ?_); rintro e w1 ⟨rfl, hg1⟩)
      | (go_at_call 45; refine (clone_any _ _ _ us _ (ht.keep hg1) (by omega)).mono ?_; rintro e w2 ⟨rfl, hr2, hg2⟩))
  obtain ⟨g, hg⟩ : ∃ g, g = w1.heap.size := ⟨_, rfl⟩
  rw [← hg] at hr2 ⊢
  have HG := hid hg
  have hkt := (kt.keep hg1).keep hg2
  have hww : w.grownBy w2 none := grown_trans hg1 hg2
  have hgw : w.heap.size ≤ g := by rw [hg]; exact hg1.size
  clear hg
  clear HCMP R1 R2
  go_loopw [7, 25] (fun s7 i wr => ∃ (k cy : Nat) (cur : List Nat), k ≤ vs.length ∧ i = .int .i64 k ∧ s7 = .int .u32 cy ∧ cy ≤ 1 ∧ IRow wr g 37 .u16 cur ∧ w2.grownBy wr (some g) ∧
      Hid (cur.length = us.length ∧ Dg 65536 cur ∧ V 65536 cur + V 65536 (vs.take k) = V 65536 us + 65536 ^ k * cy)) (fun _ i _ => vs.length - (intOf i).toNat)
  case atStart => exact ⟨0, 0, _, Nat.zero_le _, rfl, rfl, by omega, hr2, grown_refl _ _, hid ⟨rfl, hcx.1, by simp⟩⟩
  case round =>
    obtain ⟨k, cy, cur, hk, rfl, rfl, hcy1, hrow, hgr, HC⟩ := hrel
    by_cases hlt : k < vs.length
    · obtain ⟨b', o', rfl, hc1⟩ := kt.cel k hlt
      have hbl := World.block_lt_of_cell? _ _ hc1
      have hc2 := hgr.cell (hww.cell hc1 (by simp)) (by intro e; simp at e hbl; omega)
      obtain ⟨y, hy⟩ : ∃ y, y = vs[k] := ⟨_, rfl⟩
      rw [← hy] at hc2
      have hyb : y < 65536 := by rw [hy]; exact hcy.1.get k hlt
      have hcl : k < cur.length := by rw [HC.out.1]; omega
      have hcc := hrow.cell k hcl
      have hfr := hrow.free k
      obtain ⟨x, hx⟩ : ∃ x, x = cur[k] := ⟨_, rfl⟩
      rw [← hx] at hcc
      have hxb : x < 65536 := by rw [hx]; exact HC.out.2.1.get k hcl
      have HX := hid hx
      have HY := hid hy
      clear hx hy hc1 hbl
      have hk1 : (k : Int) < (us.length : Int) := by omega
      go_wp2
      have hb := borrow_bit x y cy hxb hyb hcy1
      have hs := step_sub (B := 65536) cur k ((x + 65536 - y - cy) % 65536) (if x < y + cy then 1 else 0) (y + cy) hcl (by rw [← HX.out]; exact hb.2.2)
      have hv := V_take_succ (B := 65536) vs k hlt
      rw [← HY.out] at hv
      refine ⟨⟨k + 1, if x < y + cy then 1 else 0, _, by omega, rfl, by rw [hb.1], by split <;> omega, hrow.setv k _ _ hb.2.1, grown_trans hgr (grown_setCell _ _ _),
        hid ⟨by simpa using HC.out.1, HC.out.2.1.set _ _ (Nat.mod_lt _ (by omega)), ?_⟩⟩, by simp [intOf]; omega⟩
      have := HC.out.2.2
      rw [Nat.mul_add] at hs
      omega
    · obtain rfl : k = vs.length := by omega
      have HC' : Hid (cur.length = us.length ∧ Dg 65536 cur ∧ V 65536 cur + V 65536 vs = V 65536 us + 65536 ^ vs.length * cy) := hid ⟨HC.out.1, HC.out.2.1, by
        have := HC.out.2.2
        rw [List.take_of_length_le (Nat.le_refl _)] at this
        exact this⟩
      clear HC
      go_wp2_with fail
      go_loopw [7, 11] (fun s7 i wq => ∃ (k cy : Nat) (cur : List Nat), k ≤ us.length ∧ i = .int .i64 k ∧ s7 = .int .u32 cy ∧ cy ≤ 1 ∧ IRow wq g 37 .u16 cur ∧ w2.grownBy wq (some g) ∧
          Hid (cur.length = us.length ∧ Dg 65536 cur ∧ V 65536 cur + V 65536 vs = V 65536 us + 65536 ^ k * cy)) (fun _ i _ => us.length - (intOf i).toNat)
      case atStart => exact ⟨vs.length, cy, cur, by omega, rfl, rfl, hcy1, hrow, hgr, HC'⟩
      case round =>
        obtain ⟨k, cy, cur, hk, rfl, rfl, hcy1, hrow, hgr, HC⟩ := hrel
        by_cases hz : cy = 0
        · have hne : (((cy : Int) != 0) = false) := by simp [hz]
          have hrd := hrow.rd0 (by rw [HC.out.1]; omega)
          rw [HC.out.1] at hrd
          have HR := hid (trim16 _ _ _ cur _ hrd)
          have HD := hid (hrd.take (trimR cur).length (by rw [← HC.out.1]; exact trimR_length_le cur))
          clear hrd
          go_wp2_with (go_at_call 44; refine HR.out.mono ?_; rintro e w' ⟨rfl, rfl⟩)
          go_ret2
          have e1 : trimR cur = dg 65536 N := by
            rw [trimR_dg (by omega) HC.out.2.1]
            have := HC.out.2.2
            rw [hz, Nat.mul_zero, Nat.add_zero] at this
            have h2 := HN.out
            rw [show V 65536 cur = N by omega]
          have hd := HD.out
          rw [← trimR_eq_take, e1] at hd
          rw [← e1] at hd ⊢
          exact ⟨_, _, rfl, hd, grown_new hww hgr (fun g' e' => by cases e'; exact hgw)⟩
        · have hkl := borrow_place HC.out.2.2 HLE.out HC.out.2.1.lt hz (by omega)
          rw [HC.out.1] at hkl
          have hne : (((cy : Int) != 0) = true) := by simp; omega
          have hcl : k < cur.length := by rw [HC.out.1]; exact hkl
          have hcc := hrow.cell k hcl
          have hfr := hrow.free k
          obtain ⟨x, hx⟩ : ∃ x, x = cur[k] := ⟨_, rfl⟩
          rw [← hx] at hcc
          have hxb : x < 65536 := by rw [hx]; exact HC.out.2.1.get k hcl
          have HX := hid hx
          clear hx
          have hk1 : (k : Int) < (us.length : Int) := by omega
          go_wp2
          have hb := borrow_bit x 0 cy hxb (by omega) hcy1
          simp only [Int.natCast_zero, Int.sub_zero] at hb
          have hs := step_sub (B := 65536) cur k ((x + 65536 - 0 - cy) % 65536) (if x < 0 + cy then 1 else 0) cy hcl (by rw [← HX.out]; have := hb.2.2; omega)
          refine ⟨⟨k + 1, if x < 0 + cy then 1 else 0, _, by omega, rfl, by rw [hb.1], by split <;> omega, hrow.setv k _ _ hb.2.1, grown_trans hgr (grown_setCell _ _ _),
            hid ⟨by simpa using HC.out.1, HC.out.2.1.set _ _ (Nat.mod_lt _ (by omega)), ?_⟩⟩, by simp [intOf]; omega⟩
          have := HC.out.2.2
          omega
end Go.Proofs.YtnfmjlomiihcnaaDoor
