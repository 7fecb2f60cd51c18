/-
  Contracts of natural.addProduct and natural.Mul.
-/
import Derived.Test.YtknmdmofmcfjhaaGreatDoorSub
set_option linter.unusedVariables false
set_option linter.unusedSimpArgs false
namespace Go.Proofs.YtknmdmofmcfjhaaGreatDoor
open Go.RowKit Nm

theorem W64_val : W64 = 18446744073709551616 := rfl

theorem mul_step (x y lo hi p s1 c1 cy s2 c2 : Nat) (hx : x < W64) (hy : y < W64) (hp : p < W64) (hcy : cy < W64) (h1 : x * y = lo + W64 * hi) (h2 : lo + p + 0 = s1 + W64 * c1) (h3 : s1 + cy + 0 = s2 + W64 * c2) :
    p + (x * y + cy) = s2 + W64 * (hi + c1 + c2) ∧ hi + c1 + c2 < W64 := by
  have e : p + (x * y + cy) = s2 + W64 * (hi + c1 + c2) := by rw [Nat.mul_add, Nat.mul_add]; omega
  refine ⟨e, Nat.lt_of_not_le fun h => ?_⟩
  have k1 : W64 * W64 ≤ W64 * (hi + c1 + c2) := Nat.mul_le_mul_left _ h
  have k2 : x * y ≤ (W64 - 1) * (W64 - 1) := Nat.mul_le_mul (by omega) (by omega)
  have k3 : (W64 - 1) * (W64 - 1) + 2 * (W64 - 1) + 1 = W64 * W64 := by decide
  omega

set_option maxHeartbeats 2000000 in
theorem addProduct_any (g off pc : Nat) (cur ys : List Nat) (q : Option Addr) (m d x : Nat) (w : World) (hrow : IRow w g 86 .u64 cur) (hq : IRd w .u64 q m d ys) (hne : ∀ p, q = some p → some p.block ≠ some g)
    (hoff : off + m ≤ cur.length) (hlen : cur.length ≤ 900000) (hcur : Dg W64 cur) (hys : Dg W64 ys) (hx : x < W64) :
    Calls Tryz.prog 190 #[.slice (some ⟨g, off, none⟩) m pc, .slice q m d, .int .u64 x] w fun e w' => ∃ (cy : Nat) (cur' : List Nat), e = .returned (.int .u64 cy) ∧ cy < W64 ∧ IRow w' g 86 .u64 cur' ∧ w.grownBy w' (some g) ∧
      Hid (cur'.length = cur.length ∧ Dg W64 cur' ∧ V W64 cur' + W64 ^ (off + m) * cy = V W64 cur + W64 ^ off * (x * V W64 ys) ∧ ∀ j, off + m ≤ j → cur'[j]? = cur[j]?) := by
  have HL := hid hq.len
  have hqm := hq.max
  have hqc := hq.cap
  go_enter Tryz.func190, Tryz.ntmps190
  go_wp2_with fail
  go_loopw [7, 15] (fun s7 i wr => ∃ (k cy : Nat) (cu : List Nat), k ≤ m ∧ i = .int .i64 k ∧ s7 = .int .u64 cy ∧ cy < W64 ∧ IRow wr g 86 .u64 cu ∧ w.grownBy wr (some g) ∧
      Hid (cu.length = cur.length ∧ Dg W64 cu ∧ V W64 cu + W64 ^ (off + k) * cy = V W64 cur + W64 ^ off * (x * V W64 (ys.take k)) ∧ ∀ j, off + k ≤ j → cu[j]? = cur[j]?)) (fun _ i _ => m - (intOf i).toNat)
  case atStart => exact ⟨0, 0, cur, Nat.zero_le _, rfl, rfl, by decide, hrow, grown_refl _ _, hid ⟨rfl, hcur, by simp, fun _ _ => rfl⟩⟩
  case round =>
    obtain ⟨k, cy, cu, hk, rfl, rfl, hcy, hr, hgr, HC⟩ := hrel
    by_cases hlt : k < m
    · obtain ⟨b', o', rfl, hc1⟩ := hq.cel k (by rw [HL.out]; exact hlt)
      have hc2 := hgr.cell hc1 (hne ⟨b', o', none⟩ rfl)
      obtain ⟨y, hy⟩ : ∃ y, y = ys[k]'(by rw [HL.out]; exact hlt) := ⟨_, rfl⟩
      rw [← hy] at hc2
      have hyb : y < W64 := by rw [hy]; exact hys.get k _
      have hcl : off + k < cu.length := by rw [HC.out.1]; omega
      have hcc := hr.cell (off + k) hcl
      have hfr := hr.free (off + k)
      obtain ⟨p, hp⟩ : ∃ p, p = cu[off + k] := ⟨_, rfl⟩
      rw [← hp] at hcc
      have hpb : p < W64 := by rw [hp]; exact HC.out.2.1.get _ hcl
      have HP := hid hp
      have HY := hid hy
      clear hp hy hc1
      go_wp2_with (first
        | (go_at_call 189; refine (mul64_any x y hx hyb _).mono ?_; rintro e w' ⟨hi, lo, rfl, hhi, hlo, HM, rfl⟩)
        | (with_reducible refine wl_add64 _ rfl (.tmp 27) (.tmp 31) _ _ rfl _ _ 0 rfl rfl rfl hlo hpb (by omega) ?_; intro s1 c1 hs1 hc1 H1)
        | (with_reducible refine wl_add64 _ rfl (.tmp 41) (.tmp 42) _ _ rfl _ _ 0 rfl rfl rfl hs1 hcy (by omega) ?_; intro s2 c2 hs2 hc2 H2))
      have hm := mul_step x y lo hi p s1 c1 cy s2 c2 hx hyb hpb hcy HM.out H1.out H2.out
      have hw : IntKind.u64.wrap (IntKind.u64.wrap ((hi : Int) + c1) + c2) = ((hi + c1 + c2 : Nat) : Int) := by
        have h2 : hi + c1 + c2 < 18446744073709551616 := hm.2
        rw [IntKind.wrap_u64, IntKind.wrap_u64]; omega
      have hs := step_add (B := W64) cu (off + k) s2 (hi + c1 + c2) (x * y + cy) hcl (by rw [← HP.out]; exact hm.1)
      have hv := V_take_succ (B := W64) ys k (by rw [HL.out]; exact hlt)
      rw [← HY.out] at hv
      refine ⟨⟨k + 1, hi + c1 + c2, _, by omega, rfl, by rw [hw], hm.2, hr.setv _ _ s2 rfl, grown_trans hgr (grown_setCell _ _ _),
        hid ⟨by simpa using HC.out.1, HC.out.2.1.set _ _ hs2, ?_, fun j hj => ?_⟩⟩, by simp [intOf]; omega⟩
      · rw [hv, Nat.mul_add x, Nat.mul_add (W64 ^ off)]
        have h0 := HC.out.2.2.1
        rw [Nat.mul_add (W64 ^ (off + k)) (x * y) cy] at hs
        have e1 : W64 ^ off * (x * (W64 ^ k * y)) = W64 ^ (off + k) * (x * y) := by
          rw [Nat.pow_add, Nat.mul_assoc, Nat.mul_left_comm x]
        rw [e1]
        have e2 : off + (k + 1) = off + k + 1 := by omega
        rw [e2]
        omega
      · rw [List.getElem?_set_ne (by omega)]
        exact HC.out.2.2.2 j (by omega)
    · obtain rfl : k = m := by omega
      go_wp2
      go_ret
      refine ⟨cy, cu, rfl, hcy, hr, hgr, hid ⟨HC.out.1, HC.out.2.1, ?_, HC.out.2.2.2⟩⟩
      have := HC.out.2.2.1
      rwa [List.take_of_length_le (by rw [HL.out]; exact Nat.le_refl _)] at this

/-- a longer number times a word fits, so the place of the carry -/
theorem two_words (hi lo : Nat) (h1 : hi < W64) (h2 : lo < W64) : Dg W64 [lo, hi] := fun y hy => by
  simp only [List.mem_cons, List.not_mem_nil, or_false] at hy
  rcases hy with rfl | rfl
  · exact h2
  · exact h1

set_option maxHeartbeats 2000000 in
theorem natMul_any (a b : Option Addr) (n m c d : Nat) (xs ys : List Nat) (w : World) (h : IRd w .u16 a n c xs) (k : IRd w .u16 b m d ys) (hx : Dg 65536 xs) (hy : Dg 65536 ys) (hn : n ≤ 400000) (hm : m ≤ 400000) :
    Calls Tryz.prog 158 #[.slice a n c, .slice b m d] w fun e w' => ∃ a' c', e = .returned (.slice a' (dg 65536 (V 65536 xs * V 65536 ys)).length c') ∧
      IRd w' .u16 a' (dg 65536 (V 65536 xs * V 65536 ys)).length c' (dg 65536 (V 65536 xs * V 65536 ys)) ∧ w.grownBy w' none := by
  have hmax := h.max
  have hcap := h.cap
  have kmax := k.max
  have kcap := k.cap
  have ht := h.take (trimR xs).length (by rw [← h.len]; exact trimR_length_le xs)
  have kt := k.take (trimR ys).length (by rw [← k.len]; exact trimR_length_le ys)
  rw [← trimR_eq_take] at ht kt
  have hcx := Can_trimR hx
  have hcy := Can_trimR hy
  have hvx := V_trimR (B := 65536) xs
  have hvy := V_trimR (B := 65536) ys
  have R1 := hid (trim16 a n c xs w h)
  have R2 := hid (trim16 b m d ys w k)
  have hnl : (trimR xs).length ≤ n := by rw [← h.len]; exact trimR_length_le xs
  have hml : (trimR ys).length ≤ m := by rw [← k.len]; exact trimR_length_le ys
  obtain ⟨N, hN⟩ : ∃ N, N = V 65536 xs * V 65536 ys := ⟨_, rfl⟩
  rw [← hN]
  rw [← hvx, ← hvy] at hN
  generalize trimR xs = us at *
  generalize trimR ys = vs at *
  have HN := hid hN
  clear hvx hvy h k hN
  by_cases h4 : us.length ≤ 4 ∧ vs.length ≤ 4
  · obtain ⟨h4a, h4b⟩ := h4
    have hxb : V 65536 us < W64 := by rw [W64_eq]; exact V_word hcx.1 4 h4a
    have hyb : V 65536 vs < W64 := by rw [W64_eq]; exact V_word hcy.1 4 h4b
    have W1 := hid (word_any a us.length c us w ht hcx.1 h4a)
    have W2 := hid (word_any b vs.length d vs w kt hcy.1 h4b)
    generalize V 65536 us = x at *
    generalize V 65536 vs = y at *
    have h4a' : (us.length : Int) ≤ 4 := by omega
    have h4b' : (vs.length : Int) ≤ 4 := by omega
    go_enter Tryz.func158, Tryz.ntmps158
    go_wp2_with (first
      | (go_at_call 179; (with_reducible refine (R1.out).mono ?_); rintro e w' ⟨rfl, rfl⟩)
      | (go_at_call 179; (with_reducible refine (R2.out).mono ?_); rintro e w' ⟨rfl, rfl⟩)
      | (go_at_call 184; (with_reducible refine (W1.out).mono ?_); rintro e w' ⟨rfl, rfl⟩)
      | (go_at_call 184; (with_reducible refine (W2.out).mono ?_); rintro e w' ⟨rfl, rfl⟩)
      | (go_at_call 189; refine (mul64_any x y hxb hyb _).mono ?_; rintro e w' ⟨hi, lo, rfl, hhi, hlo, HM, rfl⟩)
      | (go_at_call 173; refine (unpack_any _ _ _ [lo, hi] _ (IRow.rd0 (IRow.made w 86 .u64 [lo, hi]) (by simp)) (two_words hi lo hhi hlo) (by simp)).mono ?_; rintro e w' ⟨a', c', rfl, h1, h2⟩))
    go_ret
    have e : lo + W64 * hi = N := by rw [HN.out, HM.out]
    simp only [V_cons, V_nil, Nat.mul_zero, Nat.add_zero, e] at h1 ⊢
    exact ⟨a', c', rfl, h1, grown_trans (World.grownBy_alloc w _ none) h2⟩
  · have P1 := hid (pack_any a us.length c us w ht hcx.1 (by omega))
    have hbig : ((4 : Int) < (us.length : Int)) ∨ (((us.length : Int) ≤ 4) ∧ ((4 : Int) < (vs.length : Int))) := by omega
    clear h4
    rcases hbig with h5 | ⟨h5, h6⟩
    all_goals
      go_enter Tryz.func158, Tryz.ntmps158
      go_wp2_with (first
        | (go_at_call 179; (with_reducible refine (R1.out).mono ?_); rintro e w' ⟨rfl, rfl⟩)
        | (go_at_call 179; (with_reducible refine (R2.out).mono ?_); rintro e w' ⟨rfl, rfl⟩)
        | (go_at_call 186; (with_reducible refine (P1.out).mono ?_); rintro e w1 ⟨mx, ps, rfl, hr1, HP1, hg1⟩; have hmx : mx ≤ 100001 := by (have := HP1.out.1; omega))
        | (go_at_call 186; refine (pack_any b vs.length d vs w1 (kt.keep hg1) hcy.1 (by omega)).mono ?_; rintro e w2 ⟨my, qs, rfl, hr2, HP2, hg2⟩; have hmy : my ≤ 100001 := by (have := HP2.out.1; omega))
        | (at_make; refine wl_make _ rfl _ _ 141 rfl 86 .u64 8 Tryz.underlying141 (by kernel_rfl) _ _ _ _ rfl rfl (mx + my) (by omega) (by omega) (by omega) (by omega) ?_; intro w3 hr3 hg3))
      have hx3 : IRow w3 w.heap.size 86 .u64 ps := (hr1.kept hg2 (by simp)).kept hg3 (by simp)
      have hy3 : IRow w3 w1.heap.size 86 .u64 qs := hr2.kept hg3 (by simp)
      have hw13 : w.grownBy w3 none := grown_trans (grown_trans hg1 hg2) hg3
      have s1 := hr1.lt
      have s2 := hr2.lt
      have z1 : w.heap.size ≤ w2.heap.size := Nat.le_trans hg1.size hg2.size
      obtain ⟨g1, hg1'⟩ : ∃ g, g = w.heap.size := ⟨_, rfl⟩
      obtain ⟨g2, hg2'⟩ : ∃ g, g = w1.heap.size := ⟨_, rfl⟩
      obtain ⟨g3, hg3'⟩ : ∃ g, g = w2.heap.size := ⟨_, rfl⟩
      have d1 : g1 < g3 := by omega
      have d2 : g2 < g3 := by omega
      have d3 : w.heap.size ≤ g3 := by omega
      rw [← hg1'] at hx3 ⊢
      rw [← hg2'] at hy3 ⊢
      rw [← hg3'] at hr3 ⊢
      clear hg1' hg2' hg3' hr1 hr2 s1 s2
      have hl1 := HP1.out.2.1
      have hl2 := HP2.out.2.1
      have HL1 := hid hl1
      have HL2 := hid hl2
      have hq3 := hy3.rd0 (by omega)
      rw [hl2] at hq3
      clear hl1 hl2
      go_loopw [48] (fun i wr => ∃ (k : Nat) (cur : List Nat), k ≤ mx ∧ i = .int .i64 k ∧ IRow wr g3 86 .u64 cur ∧ w3.grownBy wr (some g3) ∧
          Hid (cur.length = mx + my ∧ Dg W64 cur ∧ V W64 cur = V W64 (ps.take k) * V W64 qs ∧ ∀ j, k + my ≤ j → j < mx + my → cur[j]? = some 0)) (fun i _ => mx - (intOf i).toNat)
      case atStart => exact ⟨0, _, Nat.zero_le _, rfl, hr3, grown_refl _ _, hid ⟨by simp, Dg.zeros (by decide) _, by simp [V_zeros], fun j h1 h2 => by simp [h2]⟩⟩
      case round =>
        obtain ⟨k, cur, hk, rfl, hrow, hgr, HC⟩ := hrel
        by_cases hlt : k < mx
        · have hkp : k < ps.length := by rw [HL1.out]; exact hlt
          have hcx3 := (hx3.kept hgr (by intro e; simp at e; omega)).cell k hkp
          obtain ⟨x, hx'⟩ : ∃ x, x = ps[k] := ⟨_, rfl⟩
          rw [← hx'] at hcx3
          have hxb : x < W64 := by rw [hx']; exact HP1.out.2.2.2.get k hkp
          have HX := hid hx'
          clear hx'
          have hk1 : (k : Int) < (mx : Int) + (my : Int) := by omega
          have hck : ¬ (mx + my = k) := by omega
          have HA := hid (addProduct_any g3 k (mx + my - k) cur qs (some ⟨g2, 0, none⟩) my my x wr hrow (hq3.kept hgr (.inr (by intro p hp; cases hp; simp; omega))) (by intro p hp; cases hp; simp; omega) (by rw [HC.out.1]; omega) (by rw [HC.out.1]; omega) HC.out.2.1 HP2.out.2.2.2 hxb)
          go_wp2_with (go_at_call 190; refine HA.out.mono ?_; rintro e w4 ⟨cy, cur', rfl, hcy', hr4, hg4, HB⟩; have hcl4 : k + my < cur'.length := (by rw [HB.out.1, HC.out.1]; omega); have hc4 := hr4.cell (k + my) hcl4; have hf4 := hr4.free (k + my); obtain ⟨z, hz⟩ : ∃ z, z = cur'[k + my] := ⟨_, rfl⟩; rw [← hz] at hc4; have HZ := hid hz; clear hz)
          have hz0 : z = 0 := by
            have h1 := HB.out.2.2.2 (k + my) (Nat.le_refl _)
            rw [HC.out.2.2.2 (k + my) (Nat.le_refl _) (by omega), List.getElem?_eq_getElem hcl4, ← HZ.out] at h1
            simpa using h1
          have hs := V_set (B := W64) cur' (k + my) cy hcl4
          rw [← HZ.out, hz0, Nat.mul_zero, Nat.add_zero] at hs
          have hv := V_take_succ (B := W64) ps k hkp
          rw [← HX.out] at hv
          refine ⟨⟨k + 1, _, by omega, rfl, hr4.setv _ _ cy rfl, grown_trans (grown_trans hgr hg4) (grown_setCell _ _ _), hid ⟨by rw [List.length_set, HB.out.1, HC.out.1], HB.out.2.1.set _ _ hcy', ?_, fun j h1 h2 => ?_⟩⟩, by simp [intOf]; omega⟩
          · rw [hs, HB.out.2.2.1, HC.out.2.2.1, hv, Nat.add_mul, Nat.mul_assoc]
          · rw [List.getElem?_set_ne (by omega), HB.out.2.2.2 j (by omega)]
            exact HC.out.2.2.2 j (by omega) h2
        · obtain rfl : k = mx := by omega
          have hrd := hrow.rd0 (by rw [HC.out.1]; omega)
          rw [HC.out.1] at hrd
          have hv : V W64 cur = N := by
            rw [HC.out.2.2.1, List.take_of_length_le (by rw [HL1.out]; exact Nat.le_refl _), HP1.out.2.2.1, HP2.out.2.2.1, HN.out]
          have HU := hid (unpack_any _ _ _ cur _ hrd HC.out.2.1 (by omega))
          rw [hv] at HU
          clear hv hrd
          go_wp2_with (go_at_call 173; refine HU.out.mono ?_; rintro e w' ⟨a', c', rfl, h1, h2⟩)
          go_ret
          exact ⟨a', c', rfl, h1, grown_trans (grown_new hw13 hgr (fun g' e' => by cases e'; exact d3)) h2⟩
end Go.Proofs.YtknmdmofmcfjhaaGreatDoor
