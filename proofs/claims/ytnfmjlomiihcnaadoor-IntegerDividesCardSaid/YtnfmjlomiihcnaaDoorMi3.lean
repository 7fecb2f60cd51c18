/-
  Contracts of functions of the program, part 3: Mul, Own, RefA, RefB, Forms, DivS.
-/
import Derived.Test.YtnfmjlomiihcnaaDoorMi2
import Derived.Deep.DeepCutAuto
import Derived.Deep.RegionWith
/-
  Contracts of natural.addProduct and natural.Mul.
-/
set_option linter.unusedVariables false
set_option linter.unusedSimpArgs false
namespace Go.Proofs.YtnfmjlomiihcnaaDoor
open Go.RowKit Nm

theorem W64_val : W64 = 18446744073709551616 := rfl

theorem mul_step (x y lo hi p s1 c1 cy s2 c2 : Nat) (hx : x < W64) (hy : y < W64) (hp : p < W64) (hcy : cy < W64) (h1 : x * y = lo + W64 * hi) (h2 : lo + p + 0 = s1 + W64 * c1) (h3 : s1 + cy + 0 = s2 + W64 * c2) :
    p + (x * y + cy) = s2 + W64 * (hi + c1 + c2) ∧ hi + c1 + c2 < W64 := by
  have e : p + (x * y + cy) = s2 + W64 * (hi + c1 + c2) := by rw [Nat.mul_add, Nat.mul_add]; omega
  refine ⟨e, Nat.lt_of_not_le fun h => ?_⟩
  have k1 : W64 * W64 ≤ W64 * (hi + c1 + c2) := Nat.mul_le_mul_left _ h
  have k2 : x * y ≤ (W64 - 1) * (W64 - 1) := Nat.mul_le_mul (by omega) (by omega)
  have k3 : (W64 - 1) * (W64 - 1) + 2 * (W64 - 1) + 1 = W64 * W64 := by decide
  omega

set_option maxHeartbeats 2000000 in
theorem addProduct_any (g off pc : Nat) (cur ys : List Nat) (q : Option Addr) (m d x : Nat) (w : World) (hrow : IRow w g 59 .u64 cur) (hq : IRd w .u64 q m d ys) (hne : ∀ p, q = some p → some p.block ≠ some g)
    (hoff : off + m ≤ cur.length) (hlen : cur.length ≤ 900000) (hcur : Dg W64 cur) (hys : Dg W64 ys) (hx : x < W64) :
    Calls Tryd.prog 71 #[.slice (some ⟨g, off, none⟩) m pc, .slice q m d, .int .u64 x] w fun e w' => ∃ (cy : Nat) (cur' : List Nat), e = .returned (.int .u64 cy) ∧ cy < W64 ∧ IRow w' g 59 .u64 cur' ∧ w.grownBy w' (some g) ∧
      Hid (cur'.length = cur.length ∧ Dg W64 cur' ∧ V W64 cur' + W64 ^ (off + m) * cy = V W64 cur + W64 ^ off * (x * V W64 ys) ∧ ∀ j, off + m ≤ j → cur'[j]? = cur[j]?) := by
  have HL := hid hq.len
  have hqm := hq.max
  have hqc := hq.cap
  go_enter Tryd.func71, Tryd.ntmps71
  go_wp2_with fail
  go_loopw [7, 15] (fun s7 i wr => ∃ (k cy : Nat) (cu : List Nat), k ≤ m ∧ i = .int .i64 k ∧ s7 = .int .u64 cy ∧ cy < W64 ∧ IRow wr g 59 .u64 cu ∧ w.grownBy wr (some g) ∧
      Hid (cu.length = cur.length ∧ Dg W64 cu ∧ V W64 cu + W64 ^ (off + k) * cy = V W64 cur + W64 ^ off * (x * V W64 (ys.take k)) ∧ ∀ j, off + k ≤ j → cu[j]? = cur[j]?)) (fun _ i _ => m - (intOf i).toNat)
  case atStart => exact ⟨0, 0, cur, Nat.zero_le _, rfl, rfl, by decide, hrow, grown_refl _ _, hid ⟨rfl, hcur, by simp, fun _ _ => rfl⟩⟩
  case round =>
    obtain ⟨k, cy, cu, hk, rfl, rfl, hcy, hr, hgr, HC⟩ := hrel
    by_cases hlt : k < m
    · obtain ⟨b', o', rfl, hc1⟩ := hq.cel k (by rw [HL.out]; exact hlt)
      have hc2 := hgr.cell hc1 (hne ⟨b', o', none⟩ rfl)
      obtain ⟨y, hy⟩ : ∃ y, y = ys[k]'(by rw [HL.out]; exact hlt) := ⟨_, rfl⟩
      rw [← hy] at hc2
      have hyb : y < W64 := by rw [hy]; exact hys.get k _
      have hcl : off + k < cu.length := by rw [HC.out.1]; omega
      have hcc := hr.cell (off + k) hcl
      have hfr := hr.free (off + k)
      obtain ⟨p, hp⟩ : ∃ p, p = cu[off + k] := ⟨_, rfl⟩
      rw [← hp] at hcc
      have hpb : p < W64 := by rw [hp]; exact HC.out.2.1.get _ hcl
      have HP := hid hp
      have HY := hid hy
      clear hp hy hc1
      go_wp2_with (first
        | (go_at_call 70; refine (mul64_any x y hx hyb _).mono ?_; rintro e w' ⟨hi, lo, rfl, hhi, hlo, HM, rfl⟩)
        | (with_reducible refine wl_add64 _ rfl (.tmp 27) (.tmp 31) _ _ rfl _ _ 0 rfl rfl rfl hlo hpb (by omega) ?_; intro s1 c1 hs1 hc1 H1)
        | (with_reducible refine wl_add64 _ rfl (.tmp 41) (.tmp 42) _ _ rfl _ _ 0 rfl rfl rfl hs1 hcy (by omega) ?_; intro s2 c2 hs2 hc2 H2))
      have hm := mul_step x y lo hi p s1 c1 cy s2 c2 hx hyb hpb hcy HM.out H1.out H2.out
      have hw : IntKind.u64.wrap (IntKind.u64.wrap ((hi : Int) + c1) + c2) = ((hi + c1 + c2 : Nat) : Int) := by
        have h2 : hi + c1 + c2 < 18446744073709551616 := hm.2
        rw [IntKind.wrap_u64, IntKind.wrap_u64]; omega
      have hs := step_add (B := W64) cu (off + k) s2 (hi + c1 + c2) (x * y + cy) hcl (by rw [← HP.out]; exact hm.1)
      have hv := V_take_succ (B := W64) ys k (by rw [HL.out]; exact hlt)
      rw [← HY.out] at hv
      refine ⟨⟨k + 1, hi + c1 + c2, _, by omega, rfl, by rw [hw], hm.2, hr.setv _ _ s2 rfl, grown_trans hgr (grown_setCell _ _ _),
        hid ⟨by simpa using HC.out.1, HC.out.2.1.set _ _ hs2, ?_, fun j hj => ?_⟩⟩, by simp [intOf]; omega⟩
      · rw [hv, Nat.mul_add x, Nat.mul_add (W64 ^ off)]
        have h0 := HC.out.2.2.1
        rw [Nat.mul_add (W64 ^ (off + k)) (x * y) cy] at hs
        have e1 : W64 ^ off * (x * (W64 ^ k * y)) = W64 ^ (off + k) * (x * y) := by
          rw [Nat.pow_add, Nat.mul_assoc, Nat.mul_left_comm x]
        rw [e1]
        have e2 : off + (k + 1) = off + k + 1 := by omega
        rw [e2]
        omega
      · rw [List.getElem?_set_ne (by omega)]
        exact HC.out.2.2.2 j (by omega)
    · obtain rfl : k = m := by omega
      go_wp2
      go_ret
      refine ⟨cy, cu, rfl, hcy, hr, hgr, hid ⟨HC.out.1, HC.out.2.1, ?_, HC.out.2.2.2⟩⟩
      have := HC.out.2.2.1
      rwa [List.take_of_length_le (by rw [HL.out]; exact Nat.le_refl _)] at this

/-- a longer number times a word fits, so the place of the carry -/
theorem two_words (hi lo : Nat) (h1 : hi < W64) (h2 : lo < W64) : Dg W64 [lo, hi] := fun y hy => by
  simp only [List.mem_cons, List.not_mem_nil, or_false] at hy
  rcases hy with rfl | rfl
  · exact h2
  · exact h1

set_option maxHeartbeats 2000000 in
theorem natMul_any (a b : Option Addr) (n m c d : Nat) (xs ys : List Nat) (w : World) (h : IRd w .u16 a n c xs) (k : IRd w .u16 b m d ys) (hx : Dg 65536 xs) (hy : Dg 65536 ys) (hn : n ≤ 400000) (hm : m ≤ 400000) :
    Calls Tryd.prog 24 #[.slice a n c, .slice b m d] w fun e w' => ∃ a' c', e = .returned (.slice a' (dg 65536 (V 65536 xs * V 65536 ys)).length c') ∧
      IRd w' .u16 a' (dg 65536 (V 65536 xs * V 65536 ys)).length c' (dg 65536 (V 65536 xs * V 65536 ys)) ∧ w.grownBy w' none := by
  have hmax := h.max
  have hcap := h.cap
  have kmax := k.max
  have kcap := k.cap
  have ht := h.take (trimR xs).length (by rw [← h.len]; exact trimR_length_le xs)
  have kt := k.take (trimR ys).length (by rw [← k.len]; exact trimR_length_le ys)
  rw [← trimR_eq_take] at ht kt
  have hcx := Can_trimR hx
  have hcy := Can_trimR hy
  have hvx := V_trimR (B := 65536) xs
  have hvy := V_trimR (B := 65536) ys
  have R1 := hid (trim16 a n c xs w h)
  have R2 := hid (trim16 b m d ys w k)
  have hnl : (trimR xs).length ≤ n := by rw [← h.len]; exact trimR_length_le xs
  have hml : (trimR ys).length ≤ m := by rw [← k.len]; exact trimR_length_le ys
  obtain ⟨N, hN⟩ : ∃ N, N = V 65536 xs * V 65536 ys := ⟨_, rfl⟩
  rw [← hN]
  rw [← hvx, ← hvy] at hN
  generalize trimR xs = us at *
  generalize trimR ys = vs at *
  have HN := hid hN
  clear hvx hvy h k hN
  by_cases h4 : us.length ≤ 4 ∧ vs.length ≤ 4
  · obtain ⟨h4a, h4b⟩ := h4
    have hxb : V 65536 us < W64 := by rw [W64_eq]; exact V_word hcx.1 4 h4a
    have hyb : V 65536 vs < W64 := by rw [W64_eq]; exact V_word hcy.1 4 h4b
    have W1 := hid (word_any a us.length c us w ht hcx.1 h4a)
    have W2 := hid (word_any b vs.length d vs w kt hcy.1 h4b)
    generalize V 65536 us = x at *
    generalize V 65536 vs = y at *
    have h4a' : (us.length : Int) ≤ 4 := by omega
    have h4b' : (vs.length : Int) ≤ 4 := by omega
    go_enter Tryd.func24, Tryd.ntmps24
    go_wp2_with (first
      | (go_at_call 44; (with_reducible refine (R1.out).mono ?_); rintro e w' ⟨rfl, rfl⟩)
      | (go_at_call 44; (with_reducible refine (R2.out).mono ?_); rintro e w' ⟨rfl, rfl⟩)
      | (go_at_call 46; (with_reducible refine (W1.out).mono ?_); rintro e w' ⟨rfl, rfl⟩)
      | (go_at_call 46; (with_reducible refine (W2.out).mono ?_); rintro e w' ⟨rfl, rfl⟩)
      | (go_at_call 70; refine (mul64_any x y hxb hyb _).mono ?_; rintro e w' ⟨hi, lo, rfl, hhi, hlo, HM, rfl⟩)
      | (go_at_call 49; refine (unpack_any _ _ _ [lo, hi] _ (IRow.rd0 (IRow.made w 59 .u64 [lo, hi]) (by simp)) (two_words hi lo hhi hlo) (by simp)).mono ?_; rintro e w' ⟨a', c', rfl, h1, h2⟩))
    go_ret
    have e : lo + W64 * hi = N := by rw [HN.out, HM.out]
    simp only [V_cons, V_nil, Nat.mul_zero, Nat.add_zero, e] at h1 ⊢
    exact ⟨a', c', rfl, h1, grown_trans (World.grownBy_alloc w _ none) h2⟩
  · have P1 := hid (pack_any a us.length c us w ht hcx.1 (by omega))
    have hbig : ((4 : Int) < (us.length : Int)) ∨ (((us.length : Int) ≤ 4) ∧ ((4 : Int) < (vs.length : Int))) := by omega
    clear h4
    rcases hbig with h5 | ⟨h5, h6⟩
    all_goals
      go_enter Tryd.func24, Tryd.ntmps24
      go_wp2_with (first
        | (go_at_call 44; (with_reducible refine (R1.out).mono ?_); rintro e w' ⟨rfl, rfl⟩)
        | (go_at_call 44; (with_reducible refine (R2.out).mono ?_); rintro e w' ⟨rfl, rfl⟩)
        | (go_at_call 47; (with_reducible refine (P1.out).mono ?_); rintro e w1 ⟨mx, ps, rfl, hr1, HP1, hg1⟩; have hmx : mx ≤ 100001 := by (have := HP1.out.1; omega))
        | (go_at_call 47; refine (pack_any b vs.length d vs w1 (kt.keep hg1) hcy.1 (by omega)).mono ?_; rintro e w2 ⟨my, qs, rfl, hr2, HP2, hg2⟩; have hmy : my ≤ 100001 := by (have := HP2.out.1; omega))
        | (at_make; refine wl_make _ rfl _ _ 61 rfl 59 .u64 8 Tryd.underlying61 (by kernel_rfl) _ _ _ _ rfl rfl (mx + my) (by omega) (by omega) (by omega) (by omega) ?_; intro w3 hr3 hg3))
      have hx3 : IRow w3 w.heap.size 59 .u64 ps := (hr1.kept hg2 (by simp)).kept hg3 (by simp)
      have hy3 : IRow w3 w1.heap.size 59 .u64 qs := hr2.kept hg3 (by simp)
      have hw13 : w.grownBy w3 none := grown_trans (grown_trans hg1 hg2) hg3
      have s1 := hr1.lt
      have s2 := hr2.lt
      have z1 : w.heap.size ≤ w2.heap.size := Nat.le_trans hg1.size hg2.size
      obtain ⟨g1, hg1'⟩ : ∃ g, g = w.heap.size := ⟨_, rfl⟩
      obtain ⟨g2, hg2'⟩ : ∃ g, g = w1.heap.size := ⟨_, rfl⟩
      obtain ⟨g3, hg3'⟩ : ∃ g, g = w2.heap.size := ⟨_, rfl⟩
      have d1 : g1 < g3 := by omega
      have d2 : g2 < g3 := by omega
      have d3 : w.heap.size ≤ g3 := by omega
      rw [← hg1'] at hx3 ⊢
      rw [← hg2'] at hy3 ⊢
      rw [← hg3'] at hr3 ⊢
      clear hg1' hg2' hg3' hr1 hr2 s1 s2
      have hl1 := HP1.out.2.1
      have hl2 := HP2.out.2.1
      have HL1 := hid hl1
      have HL2 := hid hl2
      have hq3 := hy3.rd0 (by omega)
      rw [hl2] at hq3
      clear hl1 hl2
      go_loopw [48] (fun i wr => ∃ (k : Nat) (cur : List Nat), k ≤ mx ∧ i = .int .i64 k ∧ IRow wr g3 59 .u64 cur ∧ w3.grownBy wr (some g3) ∧
          Hid (cur.length = mx + my ∧ Dg W64 cur ∧ V W64 cur = V W64 (ps.take k) * V W64 qs ∧ ∀ j, k + my ≤ j → j < mx + my → cur[j]? = some 0)) (fun i _ => mx - (intOf i).toNat)
      case atStart => exact ⟨0, _, Nat.zero_le _, rfl, hr3, grown_refl _ _, hid ⟨by simp, Dg.zeros (by decide) _, by simp [V_zeros], fun j h1 h2 => by simp [h2]⟩⟩
      case round =>
        obtain ⟨k, cur, hk, rfl, hrow, hgr, HC⟩ := hrel
        by_cases hlt : k < mx
        · have hkp : k < ps.length := by rw [HL1.out]; exact hlt
          have hcx3 := (hx3.kept hgr (by intro e; simp at e; omega)).cell k hkp
          obtain ⟨x, hx'⟩ : ∃ x, x = ps[k] := ⟨_, rfl⟩
          rw [← hx'] at hcx3
          have hxb : x < W64 := by rw [hx']; exact HP1.out.2.2.2.get k hkp
          have HX := hid hx'
          clear hx'
          have hk1 : (k : Int) < (mx : Int) + (my : Int) := by omega
          have hck : ¬ (mx + my = k) := by omega
          have HA := hid (addProduct_any g3 k (mx + my - k) cur qs (some ⟨g2, 0, none⟩) my my x wr hrow (hq3.kept hgr (.inr (by intro p hp; cases hp; simp; omega))) (by intro p hp; cases hp; simp; omega) (by rw [HC.out.1]; omega) (by rw [HC.out.1]; omega) HC.out.2.1 HP2.out.2.2.2 hxb)
          go_wp2_with (go_at_call 71; refine HA.out.mono ?_; rintro e w4 ⟨cy, cur', rfl, hcy', hr4, hg4, HB⟩; have hcl4 : k + my < cur'.length := (by rw [HB.out.1, HC.out.1]; omega); have hc4 := hr4.cell (k + my) hcl4; have hf4 := hr4.free (k + my); obtain ⟨z, hz⟩ : ∃ z, z = cur'[k + my] := ⟨_, rfl⟩; rw [← hz] at hc4; have HZ := hid hz; clear hz)
          have hz0 : z = 0 := by
            have h1 := HB.out.2.2.2 (k + my) (Nat.le_refl _)
            rw [HC.out.2.2.2 (k + my) (Nat.le_refl _) (by omega), List.getElem?_eq_getElem hcl4, ← HZ.out] at h1
            simpa using h1
          have hs := V_set (B := W64) cur' (k + my) cy hcl4
          rw [← HZ.out, hz0, Nat.mul_zero, Nat.add_zero] at hs
          have hv := V_take_succ (B := W64) ps k hkp
          rw [← HX.out] at hv
          refine ⟨⟨k + 1, _, by omega, rfl, hr4.setv _ _ cy rfl, grown_trans (grown_trans hgr hg4) (grown_setCell _ _ _), hid ⟨by rw [List.length_set, HB.out.1, HC.out.1], HB.out.2.1.set _ _ hcy', ?_, fun j h1 h2 => ?_⟩⟩, by simp [intOf]; omega⟩
          · rw [hs, HB.out.2.2.1, HC.out.2.2.1, hv, Nat.add_mul, Nat.mul_assoc]
          · rw [List.getElem?_set_ne (by omega), HB.out.2.2.2 j (by omega)]
            exact HC.out.2.2.2 j (by omega) h2
        · obtain rfl : k = mx := by omega
          have hrd := hrow.rd0 (by rw [HC.out.1]; omega)
          rw [HC.out.1] at hrd
          have hv : V W64 cur = N := by
            rw [HC.out.2.2.1, List.take_of_length_le (by rw [HL1.out]; exact Nat.le_refl _), HP1.out.2.2.1, HP2.out.2.2.1, HN.out]
          have HU := hid (unpack_any _ _ _ cur _ hrd HC.out.2.1 (by omega))
          rw [hv] at HU
          clear hv hrd
          go_wp2_with (go_at_call 49; refine HU.out.mono ?_; rintro e w' ⟨a', c', rfl, h1, h2⟩)
          go_ret
          exact ⟨a', c', rfl, h1, grown_trans (grown_new hw13 hgr (fun g' e' => by cases e'; exact d3)) h2⟩
end Go.Proofs.YtnfmjlomiihcnaaDoor

/-
  Memory, continued: slices that a call appends to.
-/
set_option linter.unusedVariables false
set_option linter.unusedSimpArgs false
namespace Nm
open Go Go.RowKit

/-- .slice a n c is nil, or the head of a row of the call's own, from block base on, whose first n cells are xs -/
def IOwn (w : World) (base : Nat) (e : TypeId) (k : IntKind) (a : Option Addr) (n c : Nat) (xs : List Nat) : Prop :=
  xs.length = n ∧ w.ownsRow base e 1 (.slice a n c) n (xs.map (iv k))

section
variable {w w' : World} {base : Nat} {e : TypeId} {k : IntKind} {a : Option Addr} {n c : Nat} {xs : List Nat}
theorem IOwn.nil (w : World) (base : Nat) (e : TypeId) (k : IntKind) : IOwn w base e k none 0 0 [] := ⟨rfl, World.ownsRow_nil w base e 1⟩
theorem IOwn.rd (h : IOwn w base e k a n c xs) : IRd w k a n c xs := by
  obtain ⟨hl, h1, h2 | ⟨g, cap, cur, hv, hb, hg, hn, hm, hs, ht⟩⟩ := h
  · obtain ⟨hv, rfl⟩ := h2
    simp only [Value.slice.injEq, true_and] at hv
    obtain ⟨rfl, rfl⟩ := hv
    obtain rfl : xs = [] := List.eq_nil_of_length_eq_zero hl
    exact IRd.nil w k
  · simp only [Value.slice.injEq, true_and] at hv
    obtain ⟨rfl, rfl⟩ := hv
    refine ⟨hl, hn, by unfold maxLen at hm; omega, fun j hj => ⟨g, 0, rfl, ?_⟩⟩
    have h3 := World.ownsRow.cells (w := w) (base := base) (e := e) (size := 1) (v := .slice (some ⟨g, 0, none⟩) n c) (n := n) (xs := xs.map (iv k)) ⟨h1, .inr ⟨g, c, cur, rfl, hb, hg, hn, hm, hs, ht⟩⟩ (g := g) rfl j (iv k xs[j]) (by simp [hj])
    rw [add_addr] at h3
    exact h3
theorem IOwn.lt (h : IOwn w base e k a n c xs) : ∀ p, a = some p → base ≤ p.block ∧ p.block < w.heap.size := fun p hp => by
  subst hp
  exact h.2.lt p.block rfl
theorem IOwn.kept (h : IOwn w base e k a n c xs) {row : Option Nat} (hg : w.grownBy w' row) (hne : row = none ∨ ∀ p, a = some p → some p.block ≠ row) : IOwn w' base e k a n c xs := by
  refine ⟨h.1, h.2.kept hg ?_⟩
  cases a with
  | none => exact .inl rfl
  | some p =>
    rcases hne with rfl | hne
    · exact .inr (by simp [Value.ownBlock])
    · exact .inr (hne p rfl)
theorem IOwn.alloc (h : IOwn w base e k a n c xs) (o : Obj) : IOwn (w.alloc o) base e k a n c xs := ⟨h.1, h.2.alloc o⟩
theorem IOwn.made (w : World) (base : Nat) (e : TypeId) (k : IntKind) (xs : List Nat) (hb : base ≤ w.heap.size) (hm : xs.length ≤ 9223372036854775807) :
    IOwn (w.alloc (.cells (xs.map (iv k)).toArray e)) base e k (some ⟨w.heap.size, 0, none⟩) xs.length xs.length xs :=
  ⟨rfl, by simpa using World.ownsRow_lit (base := base) (e := e) (size := 1) w (xs.map (iv k)).toArray xs.length hb (by unfold maxLen; omega) (by simp)⟩
theorem IOwn.ofRow {g : Nat} (h : IRow w g e k xs) (hb : base ≤ g) (hm : xs.length ≤ 9223372036854775807) : IOwn w base e k (some ⟨g, 0, none⟩) xs.length xs.length xs :=
  ⟨rfl, by simp, .inr ⟨g, xs.length, (xs.map (iv k)).toArray, rfl, hb, h, Nat.le_refl _, by unfold maxLen; omega, by simp, by rw [List.take_of_length_le (by simp)]⟩⟩
end

/-- a new slice of one number -/
theorem one_rd (w : World) (e : TypeId) (k : IntKind) (v : Int) (y : Nat) (hv : v = (y : Int)) : IRd (w.alloc (.cells #[.int k v] e)) k (some ⟨w.heap.size, 0, none⟩) 1 1 [y] := by
  subst hv
  exact (IRow.made w e k [y]).rd0 (by simp)

theorem run_append_zero {P : Program} (w : World) (t ty e : TypeId) (i : TypeInfo) (ht : P.underlying t = some (.slice e)) (hi : P.info? e = some i) (p sp : Option Addr) (n c c' : Nat) (hle : n ≤ c) :
    (Builtin.append_ #[t, t] ty #[.slice p n c, .slice sp 0 c']).run P w = .ok (.slice p n c) w := by
  cases p <;> cases sp <;> simp [Builtin.append_, run_underlying ht, Go.sizeOf, typeInfo, hi, Builtin.lenOf, Builtin.firstCells, storeCells, hle, loadCells, loadCellsFrom]

section
variable {P : Program} {ops : Array Oper} {rest : List Oper} {o : Oper} {a : Act} {Q : Exit → Act → World → Prop}
/-- append of the slice .slice sp m c', which reads as ys, to one of the call's own -/
theorem wl_append (w : World) (hgd : o.guard = none) (s x : Operand) (t : TypeId)
    (ho : o.op = .call { callee := .builtin .append, args := #[s, x], argTypes := #[t, t] })
    (e : TypeId) (k : IntKind) (bytes : Nat) (h1 : P.underlying t = some (.slice e)) (h2 : (P.info? e).map (fun i => (i.zero, i.size, i.bytes)) = some (some (.int k 0), 1, bytes))
    (base : Nat) (p : Option Addr) (n c : Nat) (xs : List Nat) (hs : a.eval s = .slice p n c) (hown : IOwn w base e k p n c xs)
    (sp : Option Addr) (m c' : Nat) (ys : List Nat) (hx : a.eval x = .slice sp m c') (hrd : IRd w k sp m c' ys)
    (b1 : n + m ≤ 9223372036854775807) (b2 : (n + m) * bytes ≤ 140737488355328) (w0 : World) (hg0 : w0.grownBy w none) (hb0 : w0.heap.size ≤ base) (hbase : base ≤ w.heap.size)
    (hK : ∀ p' c2 w', IOwn w' base e k p' (n + m) c2 (xs ++ ys) → w0.grownBy w' none → wpList P ops Q rest (a.put o.dst (.slice p' (n + m) c2)) w') : wpList P ops Q (o :: rest) a w := by
  obtain ⟨i, hi, hz0, hz1, hz2⟩ := info_parts h2
  subst hz2
  rcases Nat.eq_zero_or_pos m with hm0 | hpos
  rotate_left
  · obtain ⟨b, o', rfl, _, hc⟩ := hrd.block hpos
    refine wpList_append_own w hgd s x t ho base e i (.int k 0) 1 i.bytes h1 hi hz0 hz1 rfl (by rfl) (by decide) _ n (xs.map (iv k)) hs hown.2 ⟨b, o', none⟩ m c' (ys.map (iv k)) hx (by simp [hrd.len]) ?_ ?_ (by unfold maxLen; omega) b2 hbase ?_
    · intro j u hu
      obtain ⟨hj, rfl⟩ := List.getElem?_eq_some_iff.1 hu
      have hj' : j < ys.length := by simpa using hj
      rw [add_addr, hc j hj']; simp
    · intro u hu
      obtain ⟨z, _, rfl⟩ := List.mem_map.1 hu
      rfl
    · intro v' w' hown' hgr _
      obtain ⟨hl, h3⟩ := hown'
      have hv' : ∃ p' c2, v' = .slice p' (n + m) c2 := by
        rcases h3 with ⟨rfl, h4⟩ | ⟨g, cap, cur, rfl, _⟩
        · exact ⟨none, 0, by rw [h4]⟩
        · exact ⟨_, _, rfl⟩
      obtain ⟨p', c2, rfl⟩ := hv'
      refine hK p' c2 w' ⟨by rw [List.length_append, hown.1, hrd.len], by simpa using ⟨hl, h3⟩⟩ (grown_new hg0 hgr fun g hg => ?_)
      cases p with
      | none => simp [Value.ownBlock] at hg
      | some q =>
        simp [Value.ownBlock] at hg
        have := (hown.lt q rfl).1
        omega
  · subst hm0
    have hm : ys = [] := List.eq_nil_of_length_eq_zero hrd.len
    subst hm
    refine wpList_plain hgd fun K hK' => ?_
    have hrun := run_append_zero (P := P) w t o.type e i h1 hi p sp n c c' hown.rd.cap
    unfold Oper.wp
    simp [execOp, ho, resolve, invoke, builtin, hs, hx, hrun]
    have := hK p c w (by simpa using hown) hg0
    exact hK' _ _ (by simpa using this)
end
end Nm

/-
  Contracts of the reference: Norm, short, limb.
-/
set_option linter.unusedVariables false
set_option linter.unusedSimpArgs false
namespace Go.Proofs.YtnfmjlomiihcnaaDoor
open Go.RowKit Nm

theorem info16 : (Tryd.prog.info? 37).map (fun i => (i.zero, i.size, i.bytes)) = some (some (.int .u16 0), 1, 2) := by kernel_rfl

set_option maxHeartbeats 1000000 in
theorem refNorm_any (a : Option Addr) (n c : Nat) (xs : List Nat) (w : World) (h : IRd w .u16 a n c xs) (hn : n ≤ 4000000) :
    Calls Tryd.prog 51 #[.slice a n c] w fun e w' => ∃ a' c', e = .returned (.slice a' (trimR xs).length c') ∧ IRd w' .u16 a' (trimR xs).length c' (trimR xs) ∧ w.grownBy w' none := by
  have hcap := h.cap
  have hmax := h.max
  have HL := hid h.len
  go_enter Tryd.func51, Tryd.ntmps51
  go_wp2
  go_loop [3] (fun t => ∃ k : Nat, k ≤ n ∧ trimR xs = trimR (xs.take k) ∧ t = .int .i64 k) (fun t => (intOf t).toNat)
  case atStart => exact ⟨n, Nat.le_refl _, by rw [List.take_of_length_le (by rw [HL.out]; exact Nat.le_refl _)], rfl⟩
  case round =>
    obtain ⟨k, hk, hz, rfl⟩ := hrel
    have HZ := hid hz
    clear hz
    have done : ∀ (k : Nat), k ≤ n → trimR xs = xs.take k → Hid (trimR xs = xs.take k ∧ IRd w .u16 a k c (trimR xs)) := fun k hk e => hid ⟨e, by rw [e]; exact h.take k hk⟩
    by_cases h0 : 0 < k
    · obtain ⟨i, rfl⟩ : ∃ i, k = i + 1 := ⟨k - 1, by omega⟩
      have hi : i < xs.length := by rw [HL.out]; omega
      obtain ⟨b, o, rfl, hci⟩ := h.cel i hi
      have ht := List.take_succ_eq_append_getElem hi
      obtain ⟨x, hx⟩ : ∃ x, x = xs[i] := ⟨_, rfl⟩
      rw [← hx] at hci ht
      have HT := hid ht
      clear ht hx hi
      by_cases hf : x = 0
      · have HF := hid hf
        rw [hf] at hci
        clear hf done
        go_wp2
        exact ⟨⟨i, by omega, by rw [HZ.out, HT.out, HF.out, trimR_snoc_zero], rfl⟩, by simp [intOf]⟩
      · have D := done (i + 1) hk (by rw [HZ.out, HT.out, trimR_snoc hf])
        have HLT : Hid ((trimR xs).length = i + 1) := hid D.out.2.len
        clear done
        go_wp2_with (refine wl_append _ rfl (.tmp 19) (.tmp 22) 23 rfl 37 .u16 2 Tryd.underlying23 info16 w.heap.size none 0 0 [] rfl (IOwn.nil _ _ _ _) (some ⟨b, o, none⟩) (i + 1) c (trimR xs) rfl D.out.2 (by omega) (by omega) w (grown_refl _ _) (Nat.le_refl _) (Nat.le_refl _) ?_; intro p' c2 w1 ho hg)
        go_ret
        rw [HLT.out]
        have := ho.rd
        simp only [List.nil_append, Nat.zero_add] at this
        exact ⟨p', c2, rfl, this, hg⟩
    · obtain rfl : k = 0 := by omega
      have D := done 0 hk (by rw [HZ.out]; simp [trimR])
      have HLT : Hid ((trimR xs).length = 0) := hid D.out.2.len
      clear done
      go_wp2_with (refine wl_append _ rfl (.tmp 19) (.tmp 22) 23 rfl 37 .u16 2 Tryd.underlying23 info16 w.heap.size none 0 0 [] rfl (IOwn.nil _ _ _ _) a 0 c (trimR xs) rfl D.out.2 (by omega) (by omega) w (grown_refl _ _) (Nat.le_refl _) (Nat.le_refl _) ?_; intro p' c2 w1 ho hg)
      go_ret
      rw [HLT.out]
      have := ho.rd
      simp only [List.nil_append, Nat.zero_add] at this
      exact ⟨p', c2, rfl, this, hg⟩

theorem dg_step (r : Nat) (h : 0 < r) : dg 65536 r = r % 65536 :: dg 65536 (r / 65536) := by
  have hv : V 65536 (r % 65536 :: dg 65536 (r / 65536)) = r := by rw [V_cons, V_dg (by omega)]; omega
  have hc := Can_dg (B := 65536) (by omega) (r / 65536)
  have : Nm.Can 65536 (r % 65536 :: dg 65536 (r / 65536)) := by
    refine ⟨Dg.cons (Nat.mod_lt _ (by omega)) hc.1, ?_⟩
    by_cases h0 : r / 65536 = 0
    · rw [h0]; simp [dg_zero]; omega
    · cases e : dg 65536 (r / 65536) with
      | nil => have := V_dg (B := 65536) (by omega) (r / 65536); rw [e] at this; simp at this; omega
      | cons y ys => rw [List.getLast?_cons_cons, ← e]; exact hc.2
  have e := eq_dg (by omega) this
  rw [hv] at e
  exact e.symm

theorem refShort_any (a : Option Addr) (n c : Nat) (xs : List Nat) (w : World) (h : IRd w .u16 a n c xs) (hd : Dg 65536 xs) (hn : n ≤ 4) :
    Calls Tryd.prog 53 #[.slice a n c] w fun e w' => e = .returned (.int .u64 (V 65536 xs : Nat)) ∧ w = w' := by
  have HL := hid h.len
  have hcap := h.cap
  have hmax := h.max
  go_enter Tryd.func53, Tryd.ntmps53
  go_wp2
  go_loop [3, 4] (fun t i => ∃ k : Nat, k ≤ n ∧ i = .int .i64 ((k : Int) - 1) ∧ t = .int .u64 (V 65536 (xs.drop k) : Nat)) (fun _ i => (intOf i + 1).toNat)
  case atStart => exact ⟨n, Nat.le_refl _, rfl, by rw [List.drop_of_length_le (by rw [HL.out]; exact Nat.le_refl _)]; rfl⟩
  case round =>
    obtain ⟨k, hk, rfl, rfl⟩ := hrel
    by_cases h0 : 0 < k
    · obtain ⟨i, rfl⟩ : ∃ i, k = i + 1 := ⟨k - 1, by omega⟩
      have hi : i < xs.length := by rw [HL.out]; omega
      obtain ⟨b, o, rfl, hci⟩ := h.cel i hi
      have ht := V_drop_succ (B := 65536) xs i hi
      have hxb := hd.get i hi
      have hvb := V_word (hd.drop (i + 1)) 3 (by rw [List.length_drop, HL.out]; omega)
      obtain ⟨x, hx⟩ : ∃ x, x = xs[i] := ⟨_, rfl⟩
      rw [← hx] at hci ht hxb
      obtain ⟨v, hv⟩ : ∃ v, v = V 65536 (xs.drop (i + 1)) := ⟨_, rfl⟩
      rw [← hv] at hvb ht ⊢
      have hvb' : v < 281474976710656 := hvb
      have HT := hid ht
      clear ht hx h hi hd hv hvb
      go_wp2
      exact ⟨⟨i, by omega, rfl, by rw [HT.out]; congr 2; omega⟩, by simp [intOf]⟩
    · obtain rfl : k = 0 := by omega
      go_wp2
      go_ret
      exact ⟨by simp, rfl⟩

theorem refLimb_any (a : Option Addr) (n c : Nat) (xs : List Nat) (w : World) (h : IRd w .u16 a n c xs) (hd : Dg 65536 xs) (i : Nat) :
    Calls Tryd.prog 91 #[.slice a n c, .int .i64 i] w fun e w' => ∃ x : Nat, e = .returned (.int .i64 x) ∧ x < 65536 ∧ Hid (x = xs[i]?.getD 0) ∧ w = w' := by
  have HL := hid h.len
  by_cases hlt : i < n
  · have hi : i < xs.length := by rw [HL.out]; exact hlt
    obtain ⟨b, o, rfl, hci⟩ := h.cel i hi
    have hxb := hd.get i hi
    obtain ⟨x, hx⟩ : ∃ x, x = xs[i] := ⟨_, rfl⟩
    rw [← hx] at hci hxb
    have HX : Hid (x = xs[i]?.getD 0) := hid (by rw [List.getElem?_eq_getElem hi, hx]; rfl)
    clear hx
    have hi2 : (i : Int) < n := by omega
    go_enter Tryd.func91, Tryd.ntmps91
    go_wp2
    go_ret
    exact ⟨x, rfl, hxb, HX, rfl⟩
  · have hi2 : ¬ (i : Int) < n := by omega
    go_enter Tryd.func91, Tryd.ntmps91
    go_wp2
    go_ret
    exact ⟨0, rfl, by omega, hid (by rw [List.getElem?_eq_none (by rw [HL.out]; omega)]; rfl), rfl⟩
end Go.Proofs.YtnfmjlomiihcnaaDoor

/-
  Contracts of the reference: Cmp, Of.
-/
set_option linter.unusedVariables false
set_option linter.unusedSimpArgs false
namespace Go.Proofs.YtnfmjlomiihcnaaDoor
open Go.RowKit Nm

/-- limb i of a list, 0 behind its end -/
def lb (xs : List Nat) (i : Nat) : Nat := xs[i]?.getD 0
theorem lb_lt {xs : List Nat} (h : Dg 65536 xs) (i : Nat) : lb xs i < 65536 := by
  unfold lb
  by_cases hi : i < xs.length
  · rw [List.getElem?_eq_getElem hi]; exact h.get i hi
  · rw [List.getElem?_eq_none (by omega)]; decide
theorem refLimb_val (a : Option Addr) (n c : Nat) (xs : List Nat) (w : World) (h : IRd w .u16 a n c xs) (hd : Dg 65536 xs) (i : Nat) :
    Calls Tryd.prog 91 #[.slice a n c, .int .i64 i] w fun e w' => e = .returned (.int .i64 (lb xs i : Nat)) ∧ w = w' :=
  (refLimb_any a n c xs w h hd i).mono fun e w' ⟨x, h1, _, h3, h4⟩ => ⟨by rw [h1, h3.out]; rfl, h4⟩

theorem lb_pad (xs : List Nat) (L i : Nat) (h : i < L) (hl : xs.length ≤ L) : (xs ++ List.replicate (L - xs.length) 0)[i]? = some (lb xs i) := by
  unfold lb
  by_cases hi : i < xs.length
  · rw [List.getElem?_append_left hi, List.getElem?_eq_getElem hi]; rfl
  · rw [List.getElem?_append_right (by omega), List.getElem?_replicate, if_pos (by omega), List.getElem?_eq_none (by omega)]; rfl

theorem cmp_limbs {xs ys : List Nat} (hx : Dg 65536 xs) (hy : Dg 65536 ys) (L i : Nat) (h1 : xs.length ≤ L) (h2 : ys.length ≤ L) (hi : i < L)
    (ht : ∀ j, i < j → j < L → lb xs j = lb ys j) (hlt : lb xs i < lb ys i) : V 65536 xs < V 65536 ys := by
  have e : ∀ zs : List Nat, V 65536 (zs ++ List.replicate (L - zs.length) 0) = V 65536 zs := fun zs => by simp [V_append, V_zeros]
  have l : ∀ zs : List Nat, zs.length ≤ L → (zs ++ List.replicate (L - zs.length) 0).length = L := fun zs h => by simp; omega
  rw [← e xs, ← e ys]
  have p1 := lb_pad xs L i hi h1
  have p2 := lb_pad ys L i hi h2
  refine cmp_of_top i (hx.append (Dg.zeros (by omega) _)) (by rw [l xs h1, l ys h2]) (by rw [l xs h1]; exact hi) ?_ ?_
  · apply List.ext_getElem?
    intro j
    rw [List.getElem?_drop, List.getElem?_drop]
    by_cases hj : i + 1 + j < L
    · rw [lb_pad xs L _ hj h1, lb_pad ys L _ hj h2, ht _ (by omega) hj]
    · rw [List.getElem?_eq_none (by rw [l xs h1]; omega), List.getElem?_eq_none (by rw [l ys h2]; omega)]
  · rw [List.getElem?_eq_getElem (by rw [l xs h1]; exact hi)] at p1
    rw [List.getElem?_eq_getElem (by rw [l ys h2]; exact hi)] at p2
    simp only [Option.some.injEq] at p1 p2
    rw [p1, p2]; exact hlt

theorem eq_limbs {xs ys : List Nat} (L : Nat) (h1 : xs.length ≤ L) (h2 : ys.length ≤ L) (ht : ∀ j, j < L → lb xs j = lb ys j) : V 65536 xs = V 65536 ys := by
  have e : ∀ zs : List Nat, V 65536 (zs ++ List.replicate (L - zs.length) 0) = V 65536 zs := fun zs => by simp [V_append, V_zeros]
  rw [← e xs, ← e ys]
  congr 1
  apply List.ext_getElem?
  intro j
  by_cases hj : j < L
  · rw [lb_pad xs L _ hj h1, lb_pad ys L _ hj h2, ht _ hj]
  · rw [List.getElem?_eq_none (by simp; omega), List.getElem?_eq_none (by simp; omega)]

set_option maxHeartbeats 1000000 in
theorem refCmp_any (a b : Option Addr) (n m c d : Nat) (xs ys : List Nat) (w : World) (hX : IRd w .u16 a n c xs) (kX : IRd w .u16 b m d ys) (hx : Dg 65536 xs) (hy : Dg 65536 ys) :
    Calls Tryd.prog 90 #[.slice a n c, .slice b m d] w fun e w' => e = .returned (.int .i64 (cmpI (V 65536 xs : Nat) (V 65536 ys : Nat))) ∧ w = w' := by
  have hmax := hX.max
  have hcap := hX.cap
  have kmax := kX.max
  have kcap := kX.cap
  obtain ⟨L, hL⟩ : ∃ L, L = max n m := ⟨_, rfl⟩
  have hLb : L ≤ 9223372036854775807 := by omega
  have hLx : xs.length ≤ L := by rw [hX.len]; omega
  have hLy : ys.length ≤ L := by rw [kX.len]; omega
  go_enter Tryd.func90, Tryd.ntmps90
  have HL := hid hL
  clear hL
  go_wp2_with fail
  all_goals
    go_loop [5] (fun i => ∃ k : Nat, k ≤ L ∧ i = .int .i64 ((k : Int) - 1) ∧ Hid (∀ j, k ≤ j → j < L → lb xs j = lb ys j)) (fun i => (intOf i + 1).toNat)
    case atStart => exact ⟨L, Nat.le_refl _, by have := HL.out; congr 1; omega, hid fun j h1 h2 => by omega⟩
    case round =>
      obtain ⟨k, hk, rfl, HD⟩ := hrel
      by_cases h0 : 0 < k
      · obtain ⟨i, rfl⟩ : ∃ i, k = i + 1 := ⟨k - 1, by omega⟩
        have L1 := refLimb_val a n c xs w hX hx i
        have L2 := refLimb_val b m d ys w kX hy i
        have b1 := lb_lt hx i
        have b2 := lb_lt hy i
        obtain ⟨x, hx'⟩ : ∃ x, x = lb xs i := ⟨_, rfl⟩
        obtain ⟨y, hy'⟩ : ∃ y, y = lb ys i := ⟨_, rfl⟩
        rw [← hx'] at L1 b1
        rw [← hy'] at L2 b2
        have HX := hid hx'
        have HY := hid hy'
        have H1 := hid L1
        have H2 := hid L2
        clear hx' hy' L1 L2
        rcases Nat.lt_trichotomy x y with hlt | heq | hgt
        · have hlt' : (x : Int) < (y : Int) := by omega
          go_wp2_with (first
            | (go_at_call 91; (with_reducible refine (H1.out).mono ?_); rintro e w' ⟨rfl, rfl⟩)
            | (go_at_call 91; (with_reducible refine (H2.out).mono ?_); rintro e w' ⟨rfl, rfl⟩))
          go_ret
          have := cmp_limbs hx hy L i hLx hLy (by omega) (fun j h1 h2 => HD.out j (by omega) h2) (by rw [← HX.out, ← HY.out]; exact hlt)
          rw [cmpI_lt this]
          exact ⟨rfl, rfl⟩
        · subst heq
          go_wp2_with (first
            | (go_at_call 91; (with_reducible refine (H1.out).mono ?_); rintro e w' ⟨rfl, rfl⟩)
            | (go_at_call 91; (with_reducible refine (H2.out).mono ?_); rintro e w' ⟨rfl, rfl⟩))
          refine ⟨⟨i, by omega, rfl, hid fun j h1 h2 => ?_⟩, by simp [intOf]⟩
          by_cases hji : j = i
          · subst hji; rw [← HX.out, ← HY.out]
          · exact HD.out j (by omega) h2
        · have hgt' : (y : Int) < (x : Int) := by omega
          go_wp2_with (first
            | (go_at_call 91; (with_reducible refine (H1.out).mono ?_); rintro e w' ⟨rfl, rfl⟩)
            | (go_at_call 91; (with_reducible refine (H2.out).mono ?_); rintro e w' ⟨rfl, rfl⟩))
          go_ret
          have := cmp_limbs hy hx L i hLy hLx (by omega) (fun j h1 h2 => (HD.out j (by omega) h2).symm) (by rw [← HX.out, ← HY.out]; exact hgt)
          rw [cmpI_gt this]
          exact ⟨rfl, rfl⟩
      · obtain rfl : k = 0 := by omega
        go_wp2
        go_ret
        rw [eq_limbs L hLx hLy (fun j hj => HD.out j (Nat.zero_le _) hj), cmpI_eq]
        exact ⟨rfl, rfl⟩

set_option maxHeartbeats 1000000 in
theorem refOf_any (x : Nat) (hx : x < W64) (w : World) :
    Calls Tryd.prog 52 #[.int .u64 x] w fun e w' => ∃ a' c', e = .returned (.slice a' (dg 65536 x).length c') ∧ IRd w' .u16 a' (dg 65536 x).length c' (dg 65536 x) ∧ w.grownBy w' none := by
  have hlen : ∀ r ≤ x, (dg 65536 r).length ≤ 4 := fun r hr => dg_length_le (by omega) (by rw [← W64_eq]; omega)
  have HLEN := hid hlen
  clear hlen
  go_enter Tryd.func52, Tryd.ntmps52
  go_wp2
  go_loopw [0, 3] (fun t s wr => ∃ (r : Nat) (p : Option Addr) (m c : Nat) (zs : List Nat), t = .int .u64 r ∧ s = .slice p m c ∧ r ≤ x ∧ m ≤ 4 ∧ IOwn wr w.heap.size 37 .u16 p m c zs ∧ w.grownBy wr none ∧ Hid (zs ++ dg 65536 r = dg 65536 x)) (fun t _ _ => (intOf t).toNat)
  case atStart => exact ⟨x, none, 0, 0, [], rfl, rfl, Nat.le_refl _, by omega, IOwn.nil _ _ _ _, grown_refl _ _, hid (by simp)⟩
  case round =>
    obtain ⟨r, p, m, c, zs, rfl, rfl, hr, hm, ho, hgr, HD⟩ := hrel
    by_cases h0 : 0 < r
    · have h0' : (0 : Int) < (r : Int) := by omega
      have hm3 : m ≤ 3 := by
        have h1 := congrArg List.length HD.out
        rw [dg_step r h0] at h1
        have h2 := HLEN.out x (Nat.le_refl _)
        have := ho.1
        simp at h1; omega
      have hmi : r % 65536 < 65536 := Nat.mod_lt _ (by omega)
      have hrb : (r : Int) ≤ 18446744073709551615 := by have : x < 18446744073709551616 := hx; omega
      go_wp2_with (with_reducible refine wl_append _ rfl (.tmp 6) (.tmp 10) 23 rfl 37 .u16 2 Tryd.underlying23 info16 w.heap.size _ _ _ zs rfl (ho.alloc _) _ 1 1 [r % 65536] rfl (one_rd _ _ _ _ _ (by first | rfl | (rw [IntKind.wrap_u16]; omega) | omega)) (by omega) (by omega) w (grown_trans hgr (World.grownBy_alloc _ _ _)) (Nat.le_refl _) (by have := hgr.size; simp; omega) ?_; intro p' c2 w2 ho2 hg2)
      refine ⟨⟨r / 65536, _, _, _, _, by congr 1, rfl, by omega, by omega, ho2, hg2, hid ?_⟩, by simp [intOf]; omega⟩
      rw [List.append_assoc, List.singleton_append, ← dg_step r h0]
      exact HD.out
    · obtain rfl : r = 0 := by omega
      go_wp2
      go_ret
      have e : zs = dg 65536 x := by have := HD.out; rw [dg_zero, List.append_nil] at this; exact this
      have hl := ho.1
      subst hl
      rw [← e]
      exact ⟨p, c, rfl, ho.rd, hgr⟩
end Go.Proofs.YtnfmjlomiihcnaaDoor

/-
  Contracts of Norm, Bits, Uint of both packages, and of Same.
-/
set_option linter.unusedVariables false
set_option linter.unusedSimpArgs false
namespace Go.Proofs.YtnfmjlomiihcnaaDoor
open Go.RowKit Nm

set_option maxHeartbeats 1000000 in
/-- Same of two slices that read alike -/
theorem same_any (a b : Option Addr) (n c d : Nat) (xs : List Nat) (w : World) (h : IRd w .u16 a n c xs) (k : IRd w .u16 b n d xs) :
    Calls Tryd.prog 14 #[.slice a n c, .slice b n d] w fun e w' => e = .returned (.bool true) ∧ w.grownBy w' none := by
  have hmax := h.max
  have hcap := h.cap
  have HL := hid h.len
  go_enter Tryd.func14, Tryd.ntmps14
  go_wp2_with fail
  go_loopw [5] (fun i wr => ∃ k : Nat, k ≤ n ∧ i = .int .i64 k ∧ w.grownBy wr none) (fun i _ => n - (intOf i).toNat)
  case atStart => exact ⟨0, Nat.zero_le _, rfl, grown_refl _ _⟩
  case round =>
    obtain ⟨i, hi, rfl, hgr⟩ := hrel
    by_cases hlt : i < n
    · have hiu : i < xs.length := by rw [HL.out]; exact hlt
      obtain ⟨b1, o1, rfl, hc1⟩ := h.cel i hiu
      obtain ⟨b2, o2, rfl, hc2⟩ := k.cel i hiu
      have hd1 := hgr.cell hc1 (by simp)
      have hd2 := hgr.cell hc2 (by simp)
      obtain ⟨x, hx'⟩ : ∃ x, x = xs[i] := ⟨_, rfl⟩
      rw [← hx'] at hd1 hd2
      clear hc1 hc2 hx'
      have hi0 : (0 : Int) ≤ (i : Int) := by omega
      have hil : (i : Int) < (n : Int) := by omega
      go_wp2
      go_quiet (fail)
      go_wp2
      exact ⟨⟨i + 1, by omega, rfl, gdN hgr _⟩, by simp [intOf]; omega⟩
    · obtain rfl : i = n := by omega
      go_wp2
      go_ret
      exact ⟨rfl, hgr⟩

theorem natNorm_any (a : Option Addr) (n c : Nat) (xs : List Nat) (w : World) (h : IRd w .u16 a n c xs) (hn : n ≤ 1000000) :
    Calls Tryd.prog 23 #[.slice a n c] w fun e w' => ∃ a' c', e = .returned (.slice a' (trimR xs).length c') ∧ IRd w' .u16 a' (trimR xs).length c' (trimR xs) ∧ w.grownBy w' none := by
  have hl : (trimR xs).length ≤ n := by rw [← h.len]; exact trimR_length_le xs
  have ht := h.take (trimR xs).length hl
  rw [← trimR_eq_take] at ht
  go_enter Tryd.func23, Tryd.ntmps23
  go_wp2_with (first
    | (go_at_call 44; refine (trim16 a n c xs _ h).mono ?_; rintro e w' ⟨rfl, rfl⟩)
    | (go_at_call 45; refine (clone_any _ _ _ (trimR xs) _ ht (by omega)).mono ?_; rintro e w1 ⟨rfl, hr, hg⟩))
  go_ret
  have := hr.rd0 (by omega)
  exact ⟨_, _, rfl, this, hg⟩

/-- b is the number of binary digits of N -/
def IsBits (N b : Nat) : Prop := (N = 0 ∧ b = 0) ∨ (1 ≤ b ∧ 2 ^ (b - 1) ≤ N ∧ N < 2 ^ b)
theorem IsBits.unique {N b c : Nat} (h : IsBits N b) (k : IsBits N c) : b = c := by
  have hp : ∀ m, 0 < 2 ^ m := fun m => Nat.pow_pos (by omega)
  rcases h with ⟨h1, h2⟩ | ⟨h1, h2, h3⟩ <;> rcases k with ⟨k1, k2⟩ | ⟨k1, k2, k3⟩
  · omega
  · have := hp (c - 1); omega
  · have := hp (b - 1); omega
  · have e1 : 2 ^ (b - 1) < 2 ^ c := by omega
    have e2 : 2 ^ (c - 1) < 2 ^ b := by omega
    have := (Nat.pow_lt_pow_iff_right (by omega : 1 < 2)).1 e1
    have := (Nat.pow_lt_pow_iff_right (by omega : 1 < 2)).1 e2
    omega

theorem isBits_top (xs : List Nat) (hd : Dg 65536 xs) (top l : Nat) (ht : xs.length = top + 1) (t : Nat) (hg : xs[top]? = some t) (h0 : t ≠ 0) (hl : 1 ≤ l ∧ 2 ^ (l - 1) ≤ t ∧ t < 2 ^ l) :
    IsBits (V 65536 xs) (top * 16 + l) := by
  obtain ⟨htl, rfl⟩ := List.getElem?_eq_some_iff.1 hg
  have e := V_take_drop (B := 65536) xs top (by omega)
  rw [V_drop_succ xs top htl, List.drop_of_length_le (by omega)] at e
  simp only [V_nil, Nat.mul_zero, Nat.add_zero] at e
  have h1 := (hd.take top).lt
  rw [List.length_take, Nat.min_eq_left (by omega)] at h1
  generalize xs[top] = t at *
  have w4 : (65536 : Nat) ^ top = 2 ^ (top * 16) := by rw [show (65536 : Nat) = 2 ^ 16 from rfl, ← Nat.pow_mul, Nat.mul_comm]
  rw [w4] at e h1
  obtain ⟨b1, b2, b3⟩ := hl
  refine .inr ⟨by omega, ?_, ?_⟩
  · rw [show top * 16 + l - 1 = top * 16 + (l - 1) by omega, Nat.pow_add, e]
    exact Nat.le_trans (Nat.mul_le_mul_left _ b2) (Nat.le_add_left _ _)
  · rw [Nat.pow_add]
    have c2 : 2 ^ (top * 16) * (t + 1) ≤ 2 ^ (top * 16) * 2 ^ l := Nat.mul_le_mul_left _ b3
    rw [Nat.mul_add, Nat.mul_one] at c2
    omega

/-- the top limb of a canonical number -/
theorem can_top {xs : List Nat} (h : Nm.Can 65536 xs) (top : Nat) (ht : xs.length = top + 1) (htl : top < xs.length) : xs[top] ≠ 0 := by
  intro hz; apply h.2
  rw [List.getLast?_eq_getElem?, show xs.length - 1 = top by omega, List.getElem?_eq_getElem htl, hz]

set_option maxHeartbeats 1000000 in
theorem natBits_any (a : Option Addr) (n c : Nat) (xs : List Nat) (w : World) (h : IRd w .u16 a n c xs) (hd : Dg 65536 xs) (hn : n ≤ 1000000) :
    Calls Tryd.prog 65 #[.slice a n c] w fun e w' => ∃ b : Nat, b ≤ 16 * n ∧ e = .returned (.int .i64 b) ∧ Hid (IsBits (V 65536 xs) b) ∧ w = w' := by
  have hl : (trimR xs).length ≤ n := by rw [← h.len]; exact trimR_length_le xs
  have ht := h.take (trimR xs).length hl
  rw [← trimR_eq_take] at ht
  have hcap := h.cap
  have hmax := h.max
  have R1 := hid (trim16 a n c xs w h)
  have hcx := Can_trimR hd
  have HV := hid (V_trimR (B := 65536) xs)
  generalize trimR xs = us at *
  clear h
  by_cases h0 : us.length = 0
  · have hus : us = [] := List.eq_nil_of_length_eq_zero h0
    rw [h0] at R1
    have HU := hid hus
    clear h0 hus
    go_enter Tryd.func65, Tryd.ntmps65
    go_wp2_with (go_at_call 44; refine R1.out.mono ?_; rintro e w' ⟨rfl, rfl⟩)
    go_ret
    exact ⟨0, by omega, rfl, hid (.inl ⟨by rw [← HV.out, HU.out]; rfl, rfl⟩), rfl⟩
  · obtain ⟨top, htop⟩ : ∃ top, us.length = top + 1 := ⟨us.length - 1, by omega⟩
    have htl : top < us.length := by omega
    rw [htop] at R1
    obtain ⟨b, o, rfl, hc⟩ := ht.cel top htl
    obtain ⟨t, ht'⟩ : ∃ t, t = us[top] := ⟨_, rfl⟩
    rw [← ht'] at hc
    have htb : t < 65536 := by rw [ht']; exact hcx.1.get _ htl
    have ht0 : t ≠ 0 := by rw [ht']; exact can_top hcx top htop htl
    have HT := hid ht'
    have HTOP := hid htop
    have htn : top + 1 ≤ n := by omega
    have ht0' := hid ht0
    clear ht' htop h0 ht0
    go_enter Tryd.func65, Tryd.ntmps65
    go_wp2_with (first
      | (go_at_call 44; refine R1.out.mono ?_; rintro e w' ⟨rfl, rfl⟩)
      | (go_at_call 100; refine (len16_any t htb _).mono ?_; rintro e w' ⟨l, hl', HL, rfl, rfl⟩))
    go_ret
    refine ⟨top * 16 + l, by omega, rfl, hid ?_, rfl⟩
    rw [← HV.out]
    refine isBits_top us hcx.1 top l HTOP.out t (by rw [HT.out]; exact List.getElem?_eq_getElem htl) ht0'.out ?_
    rcases bitLen_spec t (by show t < 18446744073709551616; omega) with ⟨h1, _⟩ | h1
    · exact absurd h1 ht0'.out
    · rw [HL.out]; exact h1

end Go.Proofs.YtnfmjlomiihcnaaDoor

/-
  Contract of natural.DivMod for numbers of at most four limbs.
-/
set_option linter.unusedVariables false
set_option linter.unusedSimpArgs false
namespace Go.Proofs.YtnfmjlomiihcnaaDoor
open Go.RowKit Nm

theorem of_at (z : Int) (x : Nat) (hz : z = (x : Int)) (hx : x < W64) (w : World) :
    Calls Tryd.prog 43 #[.int .u64 z] w fun e w' => ∃ a' c', e = .returned (.slice a' (dg 65536 x).length c') ∧ IRd w' .u16 a' (dg 65536 x).length c' (dg 65536 x) ∧ w.grownBy w' none := by
  subst hz; exact of_any x hx w

/-- what DivMod returns: the quotient and the rest, canonical, and no error -/
def DmPost (w : World) (X Y : Nat) (e : Ending) (w' : World) : Prop :=
  ∃ (a1 a2 : Option Addr) (c1 c2 : Nat), e = .returned (.tuple #[.slice a1 (dg 65536 (X / Y)).length c1, .slice a2 (dg 65536 (X % Y)).length c2, .int .i64 0]) ∧
    IRd w' .u16 a1 (dg 65536 (X / Y)).length c1 (dg 65536 (X / Y)) ∧ IRd w' .u16 a2 (dg 65536 (X % Y)).length c2 (dg 65536 (X % Y)) ∧ w.grownBy w' none

set_option maxHeartbeats 1000000 in
theorem natDivMod_small (a b : Option Addr) (n m c d : Nat) (xs ys : List Nat) (w : World) (h : IRd w .u16 a n c xs) (k : IRd w .u16 b m d ys) (hx : Dg 65536 xs) (hy : Dg 65536 ys)
    (h4 : (trimR xs).length ≤ 4) (hle : (trimR ys).length ≤ (trimR xs).length) (hpos : 0 < V 65536 ys) :
    Calls Tryd.prog 12 #[.slice a n c, .slice b m d] w (DmPost w (V 65536 xs) (V 65536 ys)) := by
  have ht := h.take (trimR xs).length (by rw [← h.len]; exact trimR_length_le xs)
  have kt := k.take (trimR ys).length (by rw [← k.len]; exact trimR_length_le ys)
  rw [← trimR_eq_take] at ht kt
  have hcx := Can_trimR hx
  have hcy := Can_trimR hy
  have hvx := V_trimR (B := 65536) xs
  have hvy := V_trimR (B := 65536) ys
  have R1 := hid (trim16 a n c xs w h)
  have R2 := hid (trim16 b m d ys w k)
  rw [← hvy] at hpos ⊢
  rw [← hvx]
  generalize trimR xs = us at *
  generalize trimR ys = vs at *
  clear hvx hvy h k
  have hxb : V 65536 us < W64 := by rw [W64_eq]; exact V_word hcx.1 4 h4
  have hyb : V 65536 vs < W64 := by rw [W64_eq]; exact V_word hcy.1 4 (by omega)
  have W1 := hid (word_any a us.length c us w ht hcx.1 h4)
  have W2 := hid (word_any b vs.length d vs w kt hcy.1 (by omega))
  have hv0 : 0 < vs.length := by
    rcases Nat.eq_zero_or_pos vs.length with h0 | h0
    · rw [List.eq_nil_of_length_eq_zero h0] at hpos; simp at hpos
    · exact h0
  generalize V 65536 us = x at *
  generalize V 65536 vs = y at *
  have e1 : (((vs.length : Int) == 0) = false) := beq_eq_false_iff_ne.2 (by omega)
  have e2 : ¬ ((us.length : Int) < (vs.length : Int)) := by omega
  have e3 : ((us.length : Int) ≤ 4) := by omega
  have hq : x / y < W64 := Nat.lt_of_le_of_lt (Nat.div_le_self _ _) hxb
  have hr : x % y < W64 := Nat.lt_of_le_of_lt (Nat.mod_le _ _) hxb
  have hy1 : (1 : Int) ≤ (y : Int) := by omega
  have hx0 : (0 : Int) ≤ (x : Int) := by omega
  have HZQ : Hid (IntKind.u64.wrap ((x : Int) / (y : Int)) = ((x / y : Nat) : Int)) := hid (by rw [← Int.natCast_ediv]; exact wrap_in _ hq)
  have HZ2 : Hid ((x : Int) % (y : Int) = ((x % y : Nat) : Int)) := hid (by simp)
  have HZR : Hid ((x : Int).tmod (y : Int) = ((x % y : Nat) : Int)) := hid rfl
  go_enter Tryd.func12, Tryd.ntmps12
  go_wp2_with (first
    | (go_at_call 44; (with_reducible refine (R1.out).mono ?_); rintro e w' ⟨rfl, rfl⟩)
    | (go_at_call 44; (with_reducible refine (R2.out).mono ?_); rintro e w' ⟨rfl, rfl⟩)
    | (go_at_call 46; (with_reducible refine (W1.out).mono ?_); rintro e w' ⟨rfl, rfl⟩)
    | (go_at_call 46; (with_reducible refine (W2.out).mono ?_); rintro e w' ⟨rfl, rfl⟩))
  go_region_with (first
    | ((with_reducible refine (of_at _ (x / y) HZQ.out hq _).mono ?_); rintro e w1 ⟨p1, c1, rfl, hr1, hg1⟩)
    | ((with_reducible refine (of_at _ (x % y) HZR.out hr _).mono ?_); rintro e w2 ⟨p2, c2, rfl, hr2, hg2⟩)
    | ((with_reducible refine (of_at _ (x % y) HZ2.out hr _).mono ?_); rintro e w2 ⟨p2, c2, rfl, hr2, hg2⟩))
  all_goals go_wp2
  all_goals go_ret3
  all_goals first
    | exact ⟨p1, p2, c1, c2, rfl, hr1.keep hg2, hr2, grown_trans (grown_drew w none) (grown_trans hg1 hg2)⟩
    | exact ⟨p1, p2, c1, c2, rfl, hr1, hr2.keep hg1, grown_trans (grown_drew w none) (grown_trans hg2 hg1)⟩

end Go.Proofs.YtnfmjlomiihcnaaDoor
