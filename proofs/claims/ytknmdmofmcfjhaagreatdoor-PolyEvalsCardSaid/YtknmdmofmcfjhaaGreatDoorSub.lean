/-
  Contracts of natural.Sub.
-/
import Derived.Test.YtknmdmofmcfjhaaGreatDoorAdd
set_option linter.unusedVariables false
set_option linter.unusedSimpArgs false
namespace Go.Proofs.YtknmdmofmcfjhaaGreatDoor
open Go.RowKit Nm

/-- a borrow at place k of a difference that is not negative -/
theorem borrow_place {B v k c M N l : Nat} (e : v + N = M + B ^ k * c) (hN : N ≤ M) (hv : v < B ^ l) (hc : c ≠ 0) (hB : 1 < B) : k < l := by
  refine Nat.lt_of_not_le fun h => ?_
  have h1 : B ^ l ≤ B ^ k := Nat.pow_le_pow_right (by omega) h
  have h2 : B ^ k * 1 ≤ B ^ k * c := Nat.mul_le_mul_left _ (by omega)
  omega

theorem natSub_err (a b : Option Addr) (n m c d : Nat) (xs ys : List Nat) (w : World) (h : IRd w .u16 a n c xs) (k : IRd w .u16 b m d ys) (hx : Dg 65536 xs) (hy : Dg 65536 ys) (hlt : V 65536 xs < V 65536 ys) :
    Calls Tryz.prog 201 #[.slice a n c, .slice b m d] w fun e w' => e = .returned (.tuple #[.slice none 0 0, .int .i64 2]) ∧ w.grownBy w' none := by
  have ht := h.take (trimR xs).length (by rw [← h.len]; exact trimR_length_le xs)
  have kt := k.take (trimR ys).length (by rw [← k.len]; exact trimR_length_le ys)
  rw [← trimR_eq_take] at ht kt
  have hcx := Can_trimR hx
  have hcy := Can_trimR hy
  have hvx := V_trimR (B := 65536) xs
  have hvy := V_trimR (B := 65536) ys
  have R1 := hid (trim16 a n c xs w h)
  have R2 := hid (trim16 b m d ys w k)
  rw [← hvx, ← hvy] at hlt
  generalize trimR xs = us at *
  generalize trimR ys = vs at *
  have HC := hid (natCmp_any a b us.length vs.length c d us vs w ht kt hcx.1 hcy.1)
  have HLT := hid (cmpI_lt hlt)
  clear hvx hvy h k hlt
  go_enter Tryz.func201, Tryz.ntmps201
  go_wp2_with (first
      | (go_at_call 179; (with_reducible refine (R1.out).mono ?_); rintro e w' ⟨rfl, rfl⟩)
      | (go_at_call 179; (with_reducible refine (R2.out).mono ?_); rintro e w' ⟨rfl, rfl⟩)
      | (go_at_call 168; (with_reducible refine (HC.out).mono ?_); rw [HLT.out]; rintro e w1 ⟨rfl, hg1⟩))
  go_ret2
  exact ⟨rfl, hg1⟩

theorem borrow_bit (x y c : Nat) (hx : x < 65536) (hy : y < 65536) (hc : c ≤ 1) :
    bits .and .u32 (((x : Int) - y - c) % 4294967296 / 65536) 1 = ((if x < y + c then 1 else 0 : Nat) : Int) ∧ IntKind.u16.wrap (((x : Int) - y - c) % 4294967296) = (((x + 65536 - y - c) % 65536 : Nat) : Int) ∧
      (x + 65536 - y - c) % 65536 + (y + c) = x + 65536 * (if x < y + c then 1 else 0) := by
  refine ⟨?_, by rw [IntKind.wrap_u16]; omega, by split <;> omega⟩
  obtain ⟨z, hz⟩ : ∃ z : Nat, ((x : Int) - y - c) % 4294967296 / 65536 = (z : Int) := ⟨(((x : Int) - y - c) % 4294967296 / 65536).toNat, by omega⟩
  rw [hz, show (1 : Int) = ((1 : Nat) : Int) from rfl, u32_and_nat z 1 (by omega) (by omega), nat_mask1]
  split <;> omega

set_option maxHeartbeats 2000000 in
theorem natSub_ok (a b : Option Addr) (n m c d : Nat) (xs ys : List Nat) (w : World) (h : IRd w .u16 a n c xs) (k : IRd w .u16 b m d ys) (hx : Dg 65536 xs) (hy : Dg 65536 ys) (hn : n ≤ 900000) (hm : m ≤ 900000) (hle : V 65536 ys ≤ V 65536 xs) :
    Calls Tryz.prog 201 #[.slice a n c, .slice b m d] w fun e w' => ∃ a' c', e = .returned (.tuple #[.slice a' (dg 65536 (V 65536 xs - V 65536 ys)).length c', .int .i64 0]) ∧
      IRd w' .u16 a' (dg 65536 (V 65536 xs - V 65536 ys)).length c' (dg 65536 (V 65536 xs - V 65536 ys)) ∧ w.grownBy w' none := by
  have ht := h.take (trimR xs).length (by rw [← h.len]; exact trimR_length_le xs)
  have kt := k.take (trimR ys).length (by rw [← k.len]; exact trimR_length_le ys)
  rw [← trimR_eq_take] at ht kt
  have hcx := Can_trimR hx
  have hcy := Can_trimR hy
  have hvx := V_trimR (B := 65536) xs
  have hvy := V_trimR (B := 65536) ys
  have R1 := hid (trim16 a n c xs w h)
  have R2 := hid (trim16 b m d ys w k)
  have hnl : (trimR xs).length ≤ n := by rw [← h.len]; exact trimR_length_le xs
  have hml : (trimR ys).length ≤ m := by rw [← k.len]; exact trimR_length_le ys
  have hmax := h.max
  have hcap := h.cap
  have kmax := k.max
  have kcap := k.cap
  rw [← hvx, ← hvy] at hle ⊢
  generalize trimR xs = us at *
  generalize trimR ys = vs at *
  have HCMP := hid (natCmp_any a b us.length vs.length c d us vs w ht kt hcx.1 hcy.1)
  have hll : vs.length ≤ us.length := Nat.le_of_not_lt fun h => by have := Can.lt_of_length (by omega) hcx.1 hcy h; omega
  have hc0 : cmpI (V 65536 us) (V 65536 vs) = 0 ∨ cmpI (V 65536 us) (V 65536 vs) = 1 := by
    rcases Nat.lt_or_ge (V 65536 vs) (V 65536 us) with h1 | h1
    · exact .inr (cmpI_gt h1)
    · left; rw [show V 65536 us = V 65536 vs by omega, cmpI_eq]
  obtain ⟨s, hs⟩ : ∃ s, s = cmpI (V 65536 us) (V 65536 vs) := ⟨_, rfl⟩
  rw [← hs] at HCMP hc0
  have hs0 : 0 ≤ s := by omega
  obtain ⟨N, hN⟩ : ∃ N, N = V 65536 us - V 65536 vs := ⟨_, rfl⟩
  rw [← hN]
  have HN : Hid (N + V 65536 vs = V 65536 us) := hid (by omega)
  clear hvx hvy h k hN hs hc0
  have HLE := hid hle
  clear hle
  go_enter Tryz.func201, Tryz.ntmps201
  go_wp2_with (first
      | (go_at_call 179; (with_reducible refine (R1.out).mono ?_); rintro e w' ⟨rfl, rfl⟩)
      | (go_at_call 179; (with_reducible refine (R2.out).mono ?_); rintro e w' ⟨rfl, rfl⟩)
      | (go_at_call 168; (with_reducible refine (HCMP.out).mono ?_); rintro e w1 ⟨rfl, hg1⟩)
      | (go_at_call 182; refine (clone_any _ _ _ us _ (ht.keep hg1) (by omega)).mono ?_; rintro e w2 ⟨rfl, hr2, hg2⟩))
  obtain ⟨g, hg⟩ : ∃ g, g = w1.heap.size := ⟨_, rfl⟩
  rw [← hg] at hr2 ⊢
  have HG := hid hg
  have hkt := (kt.keep hg1).keep hg2
  have hww : w.grownBy w2 none := grown_trans hg1 hg2
  have hgw : w.heap.size ≤ g := by rw [hg]; exact hg1.size
  clear hg
  clear HCMP R1 R2
  go_loopw [7, 25] (fun s7 i wr => ∃ (k cy : Nat) (cur : List Nat), k ≤ vs.length ∧ i = .int .i64 k ∧ s7 = .int .u32 cy ∧ cy ≤ 1 ∧ IRow wr g 116 .u16 cur ∧ w2.grownBy wr (some g) ∧
      Hid (cur.length = us.length ∧ Dg 65536 cur ∧ V 65536 cur + V 65536 (vs.take k) = V 65536 us + 65536 ^ k * cy)) (fun _ i _ => vs.length - (intOf i).toNat)
  case atStart => exact ⟨0, 0, _, Nat.zero_le _, rfl, rfl, by omega, hr2, grown_refl _ _, hid ⟨rfl, hcx.1, by simp⟩⟩
  case round =>
    obtain ⟨k, cy, cur, hk, rfl, rfl, hcy1, hrow, hgr, HC⟩ := hrel
    by_cases hlt : k < vs.length
    · obtain ⟨b', o', rfl, hc1⟩ := kt.cel k hlt
      have hbl := World.block_lt_of_cell? _ _ hc1
      have hc2 := hgr.cell (hww.cell hc1 (by simp)) (by intro e; simp at e hbl; omega)
      obtain ⟨y, hy⟩ : ∃ y, y = vs[k] := ⟨_, rfl⟩
      rw [← hy] at hc2
      have hyb : y < 65536 := by rw [hy]; exact hcy.1.get k hlt
      have hcl : k < cur.length := by rw [HC.out.1]; omega
      have hcc := hrow.cell k hcl
      have hfr := hrow.free k
      obtain ⟨x, hx⟩ : ∃ x, x = cur[k] := ⟨_, rfl⟩
      rw [← hx] at hcc
      have hxb : x < 65536 := by rw [hx]; exact HC.out.2.1.get k hcl
      have HX := hid hx
      have HY := hid hy
      clear hx hy hc1 hbl
      have hk1 : (k : Int) < (us.length : Int) := by omega
      go_wp2
      have hb := borrow_bit x y cy hxb hyb hcy1
      have hs := step_sub (B := 65536) cur k ((x + 65536 - y - cy) % 65536) (if x < y + cy then 1 else 0) (y + cy) hcl (by rw [← HX.out]; exact hb.2.2)
      have hv := V_take_succ (B := 65536) vs k hlt
      rw [← HY.out] at hv
      refine ⟨⟨k + 1, if x < y + cy then 1 else 0, _, by omega, rfl, by rw [hb.1], by split <;> omega, hrow.setv k _ _ hb.2.1, grown_trans hgr (grown_setCell _ _ _),
        hid ⟨by simpa using HC.out.1, HC.out.2.1.set _ _ (Nat.mod_lt _ (by omega)), ?_⟩⟩, by simp [intOf]; omega⟩
      have := HC.out.2.2
      rw [Nat.mul_add] at hs
      omega
    · obtain rfl : k = vs.length := by omega
      have HC' : Hid (cur.length = us.length ∧ Dg 65536 cur ∧ V 65536 cur + V 65536 vs = V 65536 us + 65536 ^ vs.length * cy) := hid ⟨HC.out.1, HC.out.2.1, by
        have := HC.out.2.2
        rw [List.take_of_length_le (Nat.le_refl _)] at this
        exact this⟩
      clear HC
      go_wp2_with fail
      go_loopw [7, 11] (fun s7 i wq => ∃ (k cy : Nat) (cur : List Nat), k ≤ us.length ∧ i = .int .i64 k ∧ s7 = .int .u32 cy ∧ cy ≤ 1 ∧ IRow wq g 116 .u16 cur ∧ w2.grownBy wq (some g) ∧
          Hid (cur.length = us.length ∧ Dg 65536 cur ∧ V 65536 cur + V 65536 vs = V 65536 us + 65536 ^ k * cy)) (fun _ i _ => us.length - (intOf i).toNat)
      case atStart => exact ⟨vs.length, cy, cur, by omega, rfl, rfl, hcy1, hrow, hgr, HC'⟩
      case round =>
        obtain ⟨k, cy, cur, hk, rfl, rfl, hcy1, hrow, hgr, HC⟩ := hrel
        by_cases hz : cy = 0
        · have hne : (((cy : Int) != 0) = false) := by simp [hz]
          have hrd := hrow.rd0 (by rw [HC.out.1]; omega)
          rw [HC.out.1] at hrd
          have HR := hid (trim16 _ _ _ cur _ hrd)
          have HD := hid (hrd.take (trimR cur).length (by rw [← HC.out.1]; exact trimR_length_le cur))
          clear hrd
          go_wp2_with (go_at_call 179; refine HR.out.mono ?_; rintro e w' ⟨rfl, rfl⟩)
          go_ret2
          have e1 : trimR cur = dg 65536 N := by
            rw [trimR_dg (by omega) HC.out.2.1]
            have := HC.out.2.2
            rw [hz, Nat.mul_zero, Nat.add_zero] at this
            have h2 := HN.out
            rw [show V 65536 cur = N by omega]
          have hd := HD.out
          rw [← trimR_eq_take, e1] at hd
          rw [← e1] at hd ⊢
          exact ⟨_, _, rfl, hd, grown_new hww hgr (fun g' e' => by cases e'; exact hgw)⟩
        · have hkl := borrow_place HC.out.2.2 HLE.out HC.out.2.1.lt hz (by omega)
          rw [HC.out.1] at hkl
          have hne : (((cy : Int) != 0) = true) := by simp; omega
          have hcl : k < cur.length := by rw [HC.out.1]; exact hkl
          have hcc := hrow.cell k hcl
          have hfr := hrow.free k
          obtain ⟨x, hx⟩ : ∃ x, x = cur[k] := ⟨_, rfl⟩
          rw [← hx] at hcc
          have hxb : x < 65536 := by rw [hx]; exact HC.out.2.1.get k hcl
          have HX := hid hx
          clear hx
          have hk1 : (k : Int) < (us.length : Int) := by omega
          go_wp2
          have hb := borrow_bit x 0 cy hxb (by omega) hcy1
          simp only [Int.natCast_zero, Int.sub_zero] at hb
          have hs := step_sub (B := 65536) cur k ((x + 65536 - 0 - cy) % 65536) (if x < 0 + cy then 1 else 0) cy hcl (by rw [← HX.out]; have := hb.2.2; omega)
          refine ⟨⟨k + 1, if x < 0 + cy then 1 else 0, _, by omega, rfl, by rw [hb.1], by split <;> omega, hrow.setv k _ _ hb.2.1, grown_trans hgr (grown_setCell _ _ _),
            hid ⟨by simpa using HC.out.1, HC.out.2.1.set _ _ (Nat.mod_lt _ (by omega)), ?_⟩⟩, by simp [intOf]; omega⟩
          have := HC.out.2.2
          omega
end Go.Proofs.YtknmdmofmcfjhaaGreatDoor
