/-
  Contracts of natural.subProduct and natural.addWords.
-/
import Derived.Test.YtdmlcddieadelaaGreatDoorMul
set_option linter.unusedVariables false
set_option linter.unusedSimpArgs false
namespace Go.Proofs.YtdmlcddieadelaaGreatDoor
open Go.RowKit Nm

theorem sub_step (x y lo hi p s1 c1 cy s2 c2 : Nat) (hx : x < W64) (hy : y < W64) (hp : p < W64) (hcy : cy < W64) (hs2 : s2 < W64) (h1 : x * y = lo + W64 * hi) (h2 : lo + cy + 0 = s1 + W64 * c1) (h3 : s2 + (s1 + 0) = p + W64 * c2) :
    s2 + (x * y + cy) = p + W64 * (hi + c1 + c2) ∧ hi + c1 + c2 < W64 := by
  have e : s2 + (x * y + cy) = p + W64 * (hi + c1 + c2) := by rw [Nat.mul_add, Nat.mul_add]; omega
  refine ⟨e, Nat.lt_of_not_le fun h => ?_⟩
  have k1 : W64 * W64 ≤ W64 * (hi + c1 + c2) := Nat.mul_le_mul_left _ h
  have k2 : x * y ≤ (W64 - 1) * (W64 - 1) := Nat.mul_le_mul (by omega) (by omega)
  have k3 : (W64 - 1) * (W64 - 1) + 2 * (W64 - 1) + 1 = W64 * W64 := by decide
  omega

set_option maxHeartbeats 2000000 in
theorem subProduct_any (g off pc : Nat) (cur ys : List Nat) (q : Option Addr) (m d x : Nat) (w : World) (hrow : IRow w g 116 .u64 cur) (hq : IRd w .u64 q m d ys) (hne : ∀ p, q = some p → some p.block ≠ some g)
    (hoff : off + m ≤ cur.length) (hlen : cur.length ≤ 900000000) (hcur : Dg W64 cur) (hys : Dg W64 ys) (hx : x < W64) :
    Calls Tryz.prog 172 #[.slice (some ⟨g, off, none⟩) m pc, .slice q m d, .int .u64 x] w fun e w' => ∃ (cy : Nat) (cur' : List Nat), e = .returned (.int .u64 cy) ∧ cy < W64 ∧ IRow w' g 116 .u64 cur' ∧ w.grownBy w' (some g) ∧
      Hid (cur'.length = cur.length ∧ Dg W64 cur' ∧ V W64 cur' + W64 ^ off * (x * V W64 ys) = V W64 cur + W64 ^ (off + m) * cy ∧ ∀ j, j < off ∨ off + m ≤ j → cur'[j]? = cur[j]?) := by
  have HL := hid hq.len
  have hqm := hq.max
  have hqc := hq.cap
  go_enter Tryz.func172, Tryz.ntmps172
  go_wp2_with fail
  go_loopw [7, 15] (fun s7 i wr => ∃ (k cy : Nat) (cu : List Nat), k ≤ m ∧ i = .int .i64 k ∧ s7 = .int .u64 cy ∧ cy < W64 ∧ IRow wr g 116 .u64 cu ∧ w.grownBy wr (some g) ∧
      Hid (cu.length = cur.length ∧ Dg W64 cu ∧ V W64 cu + W64 ^ off * (x * V W64 (ys.take k)) = V W64 cur + W64 ^ (off + k) * cy ∧ ∀ j, j < off ∨ off + k ≤ j → cu[j]? = cur[j]?)) (fun _ i _ => m - (intOf i).toNat)
  case atStart => exact ⟨0, 0, cur, Nat.zero_le _, rfl, rfl, by decide, hrow, grown_refl _ _, hid ⟨rfl, hcur, by simp, fun _ _ => rfl⟩⟩
  case round =>
    obtain ⟨k, cy, cu, hk, rfl, rfl, hcy, hr, hgr, HC⟩ := hrel
    by_cases hlt : k < m
    · obtain ⟨b', o', rfl, hc1⟩ := hq.cel k (by rw [HL.out]; exact hlt)
      have hc2 := hgr.cell hc1 (hne ⟨b', o', none⟩ rfl)
      obtain ⟨y, hy⟩ : ∃ y, y = ys[k]'(by rw [HL.out]; exact hlt) := ⟨_, rfl⟩
      rw [← hy] at hc2
      have hyb : y < W64 := by rw [hy]; exact hys.get k _
      have hcl : off + k < cu.length := by rw [HC.out.1]; omega
      have hcc := hr.cell (off + k) hcl
      have hfr := hr.free (off + k)
      obtain ⟨p, hp⟩ : ∃ p, p = cu[off + k] := ⟨_, rfl⟩
      rw [← hp] at hcc
      have hpb : p < W64 := by rw [hp]; exact HC.out.2.1.get _ hcl
      have HP := hid hp
      have HY := hid hy
      clear hp hy hc1
      go_wp2_with (first
        | (go_at_call 171; refine (mul64_any x y hx hyb _).mono ?_; rintro e w' ⟨hi, lo, rfl, hhi, hlo, HM, rfl⟩)
        | (with_reducible refine wl_add64 _ rfl (.tmp 27) (.tmp 28) _ _ rfl _ _ 0 rfl rfl rfl hlo hcy (by omega) ?_; intro s1 c1 hs1 hc1 H1)
        | (with_reducible refine wl_sub64 _ rfl (.tmp 41) (.tmp 42) _ _ rfl _ _ 0 rfl rfl rfl hpb hs1 (by omega) ?_; intro s2 c2 hs2 hc2 H2))
      have hm := sub_step x y lo hi p s1 c1 cy s2 c2 hx hyb hpb hcy hs2 HM.out H1.out H2.out
      have hw : IntKind.u64.wrap (IntKind.u64.wrap ((hi : Int) + c1) + c2) = ((hi + c1 + c2 : Nat) : Int) := by
        have h2 : hi + c1 + c2 < 18446744073709551616 := hm.2
        rw [IntKind.wrap_u64, IntKind.wrap_u64]; omega
      have hs := step_sub (B := W64) cu (off + k) s2 (hi + c1 + c2) (x * y + cy) hcl (by rw [← HP.out]; exact hm.1)
      have hv := V_take_succ (B := W64) ys k (by rw [HL.out]; exact hlt)
      rw [← HY.out] at hv
      refine ⟨⟨k + 1, hi + c1 + c2, _, by omega, rfl, by rw [hw], hm.2, hr.setv _ _ s2 rfl, grown_trans hgr (grown_setCell _ _ _),
        hid ⟨by simpa using HC.out.1, HC.out.2.1.set _ _ hs2, ?_, fun j hj => ?_⟩⟩, by simp [intOf]; omega⟩
      · rw [hv, Nat.mul_add x, Nat.mul_add (W64 ^ off)]
        have h0 := HC.out.2.2.1
        rw [Nat.mul_add (W64 ^ (off + k)) (x * y) cy] at hs
        have e1 : W64 ^ off * (x * (W64 ^ k * y)) = W64 ^ (off + k) * (x * y) := by
          rw [Nat.pow_add, Nat.mul_assoc, Nat.mul_left_comm x]
        rw [e1]
        have e2 : off + (k + 1) = off + k + 1 := by omega
        rw [e2]
        omega
      · rw [List.getElem?_set_ne (by omega)]
        exact HC.out.2.2.2 j (by omega)
    · obtain rfl : k = m := by omega
      go_wp2
      go_ret
      refine ⟨cy, cu, rfl, hcy, hr, hgr, hid ⟨HC.out.1, HC.out.2.1, ?_, HC.out.2.2.2⟩⟩
      have := HC.out.2.2.1
      rwa [List.take_of_length_le (by rw [HL.out]; exact Nat.le_refl _)] at this

set_option maxHeartbeats 2000000 in
theorem addWords_any (g off pc : Nat) (cur ys : List Nat) (q : Option Addr) (m d : Nat) (w : World) (hrow : IRow w g 116 .u64 cur) (hq : IRd w .u64 q m d ys) (hne : ∀ p, q = some p → some p.block ≠ some g)
    (hoff : off + m ≤ cur.length) (hlen : cur.length ≤ 900000000) (hcur : Dg W64 cur) (hys : Dg W64 ys) :
    Calls Tryz.prog 173 #[.slice (some ⟨g, off, none⟩) m pc, .slice q m d] w fun e w' => ∃ (cy : Nat) (cur' : List Nat), e = .returned (.int .u64 cy) ∧ IRow w' g 116 .u64 cur' ∧ w.grownBy w' (some g) ∧
      Hid (cur'.length = cur.length ∧ Dg W64 cur' ∧ V W64 cur' + W64 ^ (off + m) * cy = V W64 cur + W64 ^ off * V W64 ys ∧ ∀ j, j < off ∨ off + m ≤ j → cur'[j]? = cur[j]?) := by
  have HL := hid hq.len
  have hqm := hq.max
  have hqc := hq.cap
  go_enter Tryz.func173, Tryz.ntmps173
  go_wp2_with fail
  go_loopw [5, 10] (fun s7 i wr => ∃ (k cy : Nat) (cu : List Nat), k ≤ m ∧ i = .int .i64 k ∧ s7 = .int .u64 cy ∧ cy ≤ 1 ∧ IRow wr g 116 .u64 cu ∧ w.grownBy wr (some g) ∧
      Hid (cu.length = cur.length ∧ Dg W64 cu ∧ V W64 cu + W64 ^ (off + k) * cy = V W64 cur + W64 ^ off * V W64 (ys.take k) ∧ ∀ j, j < off ∨ off + k ≤ j → cu[j]? = cur[j]?)) (fun _ i _ => m - (intOf i).toNat)
  case atStart => exact ⟨0, 0, cur, Nat.zero_le _, rfl, rfl, by omega, hrow, grown_refl _ _, hid ⟨rfl, hcur, by simp, fun _ _ => rfl⟩⟩
  case round =>
    obtain ⟨k, cy, cu, hk, rfl, rfl, hcy, hr, hgr, HC⟩ := hrel
    by_cases hlt : k < m
    · obtain ⟨b', o', rfl, hc1⟩ := hq.cel k (by rw [HL.out]; exact hlt)
      have hc2 := hgr.cell hc1 (hne ⟨b', o', none⟩ rfl)
      obtain ⟨y, hy⟩ : ∃ y, y = ys[k]'(by rw [HL.out]; exact hlt) := ⟨_, rfl⟩
      rw [← hy] at hc2
      have hyb : y < W64 := by rw [hy]; exact hys.get k _
      have hcl : off + k < cu.length := by rw [HC.out.1]; omega
      have hcc := hr.cell (off + k) hcl
      have hfr := hr.free (off + k)
      obtain ⟨p, hp⟩ : ∃ p, p = cu[off + k] := ⟨_, rfl⟩
      rw [← hp] at hcc
      have hpb : p < W64 := by rw [hp]; exact HC.out.2.1.get _ hcl
      have HP := hid hp
      have HY := hid hy
      clear hp hy hc1
      go_wp2_with (with_reducible refine wl_add64 _ rfl (.tmp 21) (.tmp 22) (.tmp 23) _ rfl _ _ cy rfl rfl rfl hpb hyb hcy ?_; intro s1 c1 hs1 hc1 H1)
      have hs := step_add (B := W64) cu (off + k) s1 c1 (y + cy) hcl (by rw [← HP.out]; have := H1.out; omega)
      have hv := V_take_succ (B := W64) ys k (by rw [HL.out]; exact hlt)
      rw [← HY.out] at hv
      refine ⟨⟨k + 1, c1, _, by omega, rfl, rfl, hc1, hr.setv _ _ s1 rfl, grown_trans hgr (grown_setCell _ _ _),
        hid ⟨by simpa using HC.out.1, HC.out.2.1.set _ _ hs1, ?_, fun j hj => ?_⟩⟩, by simp [intOf]; omega⟩
      · rw [hv, Nat.mul_add (W64 ^ off)]
        have h0 := HC.out.2.2.1
        rw [Nat.mul_add (W64 ^ (off + k)) y cy] at hs
        have e1 : W64 ^ off * (W64 ^ k * y) = W64 ^ (off + k) * y := by rw [Nat.pow_add, Nat.mul_assoc]
        rw [e1]
        have e2 : off + (k + 1) = off + k + 1 := by omega
        rw [e2]
        omega
      · rw [List.getElem?_set_ne (by omega)]
        exact HC.out.2.2.2 j (by omega)
    · obtain rfl : k = m := by omega
      go_wp2
      go_ret
      refine ⟨cy, cu, rfl, hr, hgr, hid ⟨HC.out.1, HC.out.2.1, ?_, HC.out.2.2.2⟩⟩
      have := HC.out.2.2.1
      rwa [List.take_of_length_le (by rw [HL.out]; exact Nat.le_refl _)] at this
end Go.Proofs.YtdmlcddieadelaaGreatDoor
