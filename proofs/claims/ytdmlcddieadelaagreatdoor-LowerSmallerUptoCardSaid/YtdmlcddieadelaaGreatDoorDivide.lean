/-
  Contract of natural.divide: the division by hand.
-/
import Derived.Test.YtdmlcddieadelaaGreatDoorDigit
import Derived.Test.YtdmlcddieadelaaGreatDoorDivW
import Derived.Test.YtdmlcddieadelaaGreatDoorDivB
import Derived.Deep.CutBlock
import Derived.Deep.DeepCutAuto
set_option linter.unusedVariables false
set_option linter.unusedSimpArgs false
namespace Go.Proofs.YtdmlcddieadelaaGreatDoor
open Go.RowKit Nm

theorem boxes2 (w : World) (x y : Nat) (T : TypeId) :
    ((w.alloc (.cells #[.int .u64 x] T)).alloc (.cells #[.int .u64 y] T)).drew.cell? ⟨w.heap.size, 0, none⟩ = some (.int .u64 x) ∧
    ((w.alloc (.cells #[.int .u64 x] T)).alloc (.cells #[.int .u64 y] T)).drew.cell? ⟨w.heap.size + 1, 0, none⟩ = some (.int .u64 y) ∧
    w.grownBy ((w.alloc (.cells #[.int .u64 x] T)).alloc (.cells #[.int .u64 y] T)).drew none := by
  refine ⟨?_, ?_, ?_⟩
  · refine (grown_drew _ none).cell ((World.grownBy_alloc _ _ none).cell ?_ (by simp)) (by simp)
    exact (by simp [go_sem])
  · refine (grown_drew _ none).cell ?_ (by simp)
    exact (by simp [go_sem])
  · exact grown_trans (grown_trans (World.grownBy_alloc _ _ none) (World.grownBy_alloc _ _ none)) (grown_drew _ none)

set_option maxRecDepth 100000 in
set_option maxHeartbeats 2000000 in
theorem divide_len (a b : Option Addr) (n m c d : Nat) (us vs : List Nat) (w : World) (h : IRd w .u64 a n c us) (k : IRd w .u64 b (m + 2) d vs) (hu : Dg W64 us) (hv : Dg W64 vs) (hmn : m + 2 ≤ n) (hn : n ≤ 800000000) (hm : m + 2 ≤ 800000000)
    (htop : ∀ t, vs[m + 1]? = some t → 0 < t) :
    Calls Tryz.prog 161 #[.slice a n c, .slice b (m + 2 : Nat) d] w fun e w' => ∃ (a1 a2 : Option Addr) (n1 n2 : Nat) (qs rs : List Nat), e = .returned (.tuple #[.slice a1 n1 n1, .slice a2 n2 n2]) ∧
      IRd w' .u64 a1 n1 n1 qs ∧ IRd w' .u64 a2 n2 n2 rs ∧ n1 ≤ 900000000 ∧ n2 ≤ 900000000 ∧ Hid (Dg W64 qs ∧ Dg W64 rs ∧ V W64 qs = V W64 us / V W64 vs ∧ V W64 rs = V W64 us % V W64 vs ∧ rs.length = n + 1) ∧ w.grownBy w' none := by
  have hmax := h.max
  have hcap := h.cap
  have kmax := k.max
  have kcap := k.cap
  have hvl : m + 1 < vs.length := by rw [k.len]; omega
  obtain ⟨bv, ov, rfl, hcv⟩ := k.cel (m + 1) hvl
  obtain ⟨t, ht⟩ : ∃ t, t = vs[m + 1] := ⟨_, rfl⟩
  rw [← ht] at hcv
  have htb : t < W64 := by rw [ht]; exact hv.get _ hvl
  have ht0 : 0 < t := htop t (by rw [List.getElem?_eq_getElem hvl, ht])
  have L1 := hid (lz_any t ht0 htb w)
  have HT := hid ht
  clear ht htop
  have hm1 : (0 : Int) ≤ (m : Int) + 2 - 1 := by omega
  go_enter Tryz.func161, Tryz.ntmps161
  go_upto_region 2 with (go_at_call 168; (with_reducible refine (L1.out).mono ?_); rintro e w' ⟨s, hs, rfl, HLZ, rfl⟩)
  clear hcv L1
  go_upto_region 3 with (first
    | (go_at_call 169; (with_reducible refine (shiftUp_any _ n c s us _ h hu hs (by omega)).mono ?_); rintro e w1 ⟨ys, rfl, hr1, HY, hg1⟩)
    | (go_at_call 169; (with_reducible refine (shiftUp_any _ (m + 2) d s vs _ (k.keep hg1) hv hs (by omega)).mono ?_); rintro e w2 ⟨zs, rfl, hr2, HZ, hg2⟩))
  obtain ⟨g0, hg0⟩ : ∃ g, g = w.heap.size := ⟨_, rfl⟩
  obtain ⟨g1, hg1'⟩ : ∃ g, g = w1.heap.size := ⟨_, rfl⟩
  rw [← hg0] at hr1 ⊢
  rw [← hg1'] at hr2 ⊢
  have h01 : g0 < g1 := by rw [hg1']; exact hr1.lt
  have h12 : g1 < w2.heap.size := hr2.lt
  have hr1 := hr1.kept hg2 (by simp)
  have hW := grown_trans hg1 hg2
  have HG0 := hid hg0
  have h0w : w.heap.size ≤ g0 := by omega
  clear hg0 hg1' hg1 hg2
  have hS : 0 < 2 ^ s := Nat.pow_pos (by omega)
  have hnt := norm_top (W := W64) (S := 2 ^ s) (T := 2 ^ (64 - s)) (by decide) (two_pow_cut s hs) vs zs hv HZ.out.2.2 m t (by rw [k.len]) HZ.out.1 HT.out HZ.out.2.1 (by have := HLZ.out.2.1; unfold W64; omega) (by have := HLZ.out.2.2; unfold W64; omega) hS
  have hzl1 : m + 1 < zs.length := by rw [HZ.out.1]; omega
  have hzl0 : m < zs.length := by rw [HZ.out.1]; omega
  have hc1 := hr2.cell (m + 1) hzl1
  have hc0 := hr2.cell m hzl0
  obtain ⟨first, hfst⟩ : ∃ f, f = zs[m + 1] := ⟨_, rfl⟩
  obtain ⟨second, hsnd⟩ : ∃ f, f = zs[m] := ⟨_, rfl⟩
  rw [← hfst] at hc1 hnt
  rw [← hsnd] at hc0
  have hfb : first < W64 := by rw [hfst]; exact HZ.out.2.2.get _ hzl1
  have hsb : second < W64 := by rw [hsnd]; exact HZ.out.2.2.get _ hzl0
  have HF := hid hfst
  have HS := hid hsnd
  have HNT := hid hnt
  clear hfst hsnd hnt
  have hm2 : (0 : Int) ≤ (m : Int) + 2 - 2 := by omega
  go_upto_region 5 with fail
  go_cut [8, 9] (fun s8 s9 wx => ∃ G1 G2 : Nat, s8 = .pointer (some ⟨G1, 0, none⟩) ∧ s9 = .pointer (some ⟨G2, 0, none⟩) ∧ wx.cell? ⟨G1, 0, none⟩ = some (.int .u64 first) ∧ wx.cell? ⟨G2, 0, none⟩ = some (.int .u64 second) ∧ g1 < G1 ∧ g1 < G2 ∧ w2.grownBy wx none)
  case first =>
    go_region
    · go_wp2_with fail
      go_meet
      have hx := boxes2 w2 first second 116
      exact ⟨_, _, rfl, rfl, hx.1, hx.2.1, h12, by omega, hx.2.2⟩
    · go_wp2_with fail
      go_meet
      have hx := boxes2 w2 second first 116
      exact ⟨_, _, rfl, rfl, hx.2.1, hx.1, by omega, h12, hx.2.2⟩
  case rest =>
    obtain ⟨G1, G2, rfl, rfl, hG1, hG2, h1G, h2G, hg3⟩ := hcut
    replace hr1 := hr1.kept hg3 (by simp)
    replace hr2 := hr2.kept hg3 (by simp)
    replace hW := grown_trans hW hg3
    clear hc1 hc0 hg3 h12
    obtain ⟨Lq, hLq⟩ : ∃ Lq, Lq = n + 1 - (m + 2) := ⟨_, rfl⟩
    have hLqi : (n : Int) + 1 - ((m : Int) + 2) = (Lq : Int) := by omega
    have HLQ := hid hLq
    have hLq1 : Lq + (m + 2) = n + 1 := by omega
    clear hLq
    go_upto_region 8 with (at_make; refine wl_make _ rfl _ _ 163 rfl 116 .u64 8 Tryz.underlying163 (by kernel_rfl) _ _ _ _ rfl rfl Lq (by omega) (by omega) (by omega) (by omega) ?_; intro w3 hr3 hg3)
    clear hLqi
    obtain ⟨gq, hgq⟩ : ∃ g, g = wc.heap.size := ⟨_, rfl⟩
    rw [← hgq] at hr3 ⊢
    have h1q : g1 < gq := by rw [hgq]; exact hr2.lt
    have hG1q : G1 < gq := by rw [hgq]; exact World.block_lt_of_cell? _ _ hG1
    have hG2q : G2 < gq := by rw [hgq]; exact World.block_lt_of_cell? _ _ hG2
    replace hr1 := hr1.kept hg3 (by simp)
    replace hr2 := hr2.kept hg3 (by simp)
    replace hG1 := hg3.cell hG1 (by simp)
    replace hG2 := hg3.cell hG2 (by simp)
    replace hW := grown_trans hW hg3
    have hgw : w.heap.size ≤ gq := by omega
    have HK : Hid (KInv W64 n Lq (V W64 zs) (V W64 us * 2 ^ s) Lq ys (List.replicate Lq 0)) := hid (by
      have hk := KInv.start (W := W64) (n := n) (m := m + 2) (v := V W64 zs) (U := V W64 us) (S := 2 ^ s) (cu := ys) (by decide) (by omega) hmn HY.out.1 HY.out.2.2 HY.out.2.1 (by rw [← h.len]; exact hu.lt) HNT.out.2.2.2 (Nat.pow_pos (by omega))
      rw [← HLQ.out] at hk
      exact hk)
    clear hgq hg3
    go_wp2_with fail
    go_loopw [11] (fun i wr => ∃ (k : Nat) (cu cq : List Nat), k ≤ Lq ∧ i = .int .i64 ((k : Int) - 1) ∧ IRow wr g0 116 .u64 cu ∧ IRow wr gq 116 .u64 cq ∧ IRow wr g1 116 .u64 zs ∧ wr.cell? ⟨G1, 0, none⟩ = some (.int .u64 first) ∧ wr.cell? ⟨G2, 0, none⟩ = some (.int .u64 second) ∧
        w.grownBy wr none ∧ Hid (KInv W64 n Lq (V W64 zs) (V W64 us * 2 ^ s) k cu cq)) (fun i _ => (intOf i + 1).toNat)
    case atStart => exact ⟨Lq, ys, _, Nat.le_refl _, rfl, hr1, hr3, hr2, hG1, hG2, hW, HK⟩
    case round =>
      clear hr1 hr2 hr3 hG1 hG2 hW HK
      obtain ⟨k', cu, cq, hk', rfl, hr1, hrq, hr2, hG1, hG2, hW, HK⟩ := hrel
      by_cases h0 : 0 < k'
      · obtain ⟨i, rfl⟩ : ∃ i, k' = i + 1 := ⟨k' - 1, by omega⟩
        have hlu := HK.out.lu
        have hlq := HK.out.lq
        have hit : i + (m + 2) < cu.length := by omega
        have him : i + (m + 1) < cu.length := by omega
        have hil : i + m < cu.length := by omega
        have hct := hr1.cell _ hit
        have hcm := hr1.cell _ him
        have hcl := hr1.cell _ hil
        obtain ⟨top, ht⟩ : ∃ x, x = cu[i + (m + 2)] := ⟨_, rfl⟩
        obtain ⟨mid, hmd⟩ : ∃ x, x = cu[i + (m + 1)] := ⟨_, rfl⟩
        obtain ⟨low, hlw⟩ : ∃ x, x = cu[i + m] := ⟨_, rfl⟩
        rw [← ht] at hct
        rw [← hmd] at hcm
        rw [← hlw] at hcl
        have hdu := HK.out.du
        have htb' : top < W64 := by rw [ht]; exact hdu.get _ hit
        have hmb : mid < W64 := by rw [hmd]; exact hdu.get _ him
        have hlb : low < W64 := by rw [hlw]; exact hdu.get _ hil
        have hi0 : (0 : Int) ≤ (i : Int) := by omega
        have hi1 : (i : Int) + ((m : Int) + 2) < (n : Int) + 1 := by omega
        have hck : ¬ (n + 1 = i) := by omega
        have HTT := hid (And.intro ht (And.intro hmd hlw))

        clear ht hmd hlw hdu hlu hlq
        have HD : ∀ q, Hid (Calls Tryz.prog 170 #[.int .u64 top, .int .u64 mid, .int .u64 low, .pointer (some ⟨G1, 0, none⟩), .pointer (some ⟨G2, 0, none⟩)] (wr.drewN q) fun e w' => e = .returned (.int .u64 (dgt first second top mid low : Nat)) ∧ ∃ n, w' = (wr.drewN q).drewN n) := fun q =>
          hid (digit_q top mid low first second htb' hmb hlb hfb hsb ⟨G1, 0, none⟩ ⟨G2, 0, none⟩ (wr.drewN q) hG1 hG2)
        have HDD := hid HD
        clear HD
        have hlen : i + (m + 2) - i = m + 2 := by omega
        go_wp2_with fail
        go_quiet ((go_at_call 170; exact Calls.quiet_of (HDD.out _).out))
        clear HDD hct hcm hcl
        obtain ⟨dd, hdd⟩ : ∃ x, x = dgt first second top mid low := ⟨_, rfl⟩
        rw [← hdd]
        have hest := HK.out.digit (by decide) HNT.out.1 HZ.out.2.2 HZ.out.1 rfl HNT.out.2.2.1 HF.out HS.out HNT.out.2.1 hit (d := dd) (by rw [hdd, ← HTT.out.1, ← HTT.out.2.1, ← HTT.out.2.2]; rfl)
        have hdb : dd < W64 := hest.1
        have HEST := hid hest
        clear hdd hest
        have hzd : Dg W64 (zs.take (m + 2)) := HZ.out.2.2.take _
        have hrd := IRow.rd (w := wr.drewN nq) hr2 0 (m + 2) (m + 2 + 1) (by rw [HZ.out.1]; omega) (by omega) (by omega)
        rw [List.drop_zero] at hrd
        have hiq : i < Lq := by omega
        have hcuL : cu.length = n + 1 := HK.out.lu
        have HCU := hid hcuL
        go_wp2_with fail
        refine (subProduct_any g0 i _ cu (zs.take (m + 2)) _ (m + 2) _ dd (wr.drewN nq) hr1 hrd (by intro p hp; cases hp; simp; omega) (by omega) (by omega) HK.out.du hzd hdb).mono ?_
        clear hcuL
        rintro e w4 ⟨bor, cu1, rfl, hbor, hr1a, hg4, HC1⟩
        have hW4 : w.grownBy w4 none := grown_new (gdN hW nq) hg4 (fun g' e' => by cases e'; exact h0w)
        have hrq4 := IRow.kept (w := wr.drewN nq) hrq hg4 (by simp; omega)
        have hr24 := IRow.kept (w := wr.drewN nq) hr2 hg4 (by simp; omega)
        have hG14 := hg4.cell (a := ⟨G1, 0, none⟩) hG1 (by simp; omega)
        have hG24 := hg4.cell (a := ⟨G2, 0, none⟩) hG2 (by simp; omega)
        clear hr1 hrq hr2 hG1 hG2 hW hg4 hrd
        by_cases hlt : top < bor
        · have hlt' : (top : Int) < (bor : Int) := by omega
          have hrd := hr24.rd 0 (m + 2) (m + 2 + 1) (by rw [HZ.out.1]; omega) (by omega) (by omega)
          rw [List.drop_zero] at hrd
          have hcu1 : cu1.length = n + 1 := by rw [HC1.out.1]; exact HCU.out
          go_wp2_with fail
          refine (addWords_any g0 i _ cu1 (zs.take (m + 2)) _ (m + 2) _ w4 hr1a hrd (by intro p hp; cases hp; simp; omega) (by omega) (by omega) HC1.out.2.1 hzd).mono ?_
          rintro e w5 ⟨cy, cu2, rfl, hr1b, hg5, HC2⟩
          have hW5 : w.grownBy w5 none := grown_new hW4 hg5 (fun g' e' => by cases e'; exact h0w)
          have hrq5 := hrq4.kept hg5 (by simp; omega)
          have hr25 := hr24.kept hg5 (by simp; omega)
          have hG15 := hg5.cell hG14 (by simp; omega)
          have hG25 := hg5.cell hG24 (by simp; omega)
          clear hr1a hrq4 hr24 hG14 hG24 hW4 hg5 hrd
          have hless := hid (HK.out.less (by decide) (Nat.le_of_lt HNT.out.1) (by omega) (by omega) hiq HC1.out.1 HC1.out.2.1 (by have := HC1.out.2.2.1; rw [HNT.out.2.2.1] at this; exact this) HC1.out.2.2.2 hit (by rw [← HTT.out.1]; exact hlt) hdb HEST.out.2.2
            HC2.out.1 HC2.out.2.1 (by have := HC2.out.2.2.1; rw [HNT.out.2.2.1] at this; exact this) HC2.out.2.2.2)
          have hcu2 : cu2.length = n + 1 := by rw [HC2.out.1]; exact hcu1
          have hi2 : i + (m + 2) < cu2.length := by omega
          have hcc := hr1b.cell _ hi2
          have hff := hr1b.free (i + (m + 2))
          have hlq := HK.out.lq
          have hcq := hrq5.cell i (by omega)
          have hfq := hrq5.free i
          obtain ⟨x1, hx1⟩ : ∃ x, x = cu2[i + (m + 2)] := ⟨_, rfl⟩
          obtain ⟨x2, hx2⟩ : ∃ x, x = cq[i]'(by omega) := ⟨_, rfl⟩
          rw [← hx1] at hcc
          rw [← hx2] at hcq
          obtain ⟨d2, hd2⟩ : ∃ x, x = dd - 1 := ⟨_, rfl⟩
          have hde : IntKind.u64.wrap ((dd : Int) - 1) = (d2 : Int) := by rw [IntKind.wrap_u64]; have := hless.out.1; unfold W64 at hdb; omega
          rw [← hd2] at hless
          have hqi : (i : Int) < (Lq : Int) := by omega
          have hne : gq ≠ g0 := by omega
          clear hx1 hx2 hd2 hlq hcu2 hcu1
          go_wp2
          have s1 := IRow.setv hr1b (i + (m + 2)) 0 0 rfl
          have s2 := IRow.kept hrq5 (grown_setCell w5 ⟨g0, i + (m + 2), none⟩ (.int .u64 0)) (by simp; omega)
          have s3 := IRow.setv s2 i (d2 : Int) d2 rfl
          refine ⟨⟨i, cu2.set (i + (m + 2)) 0, cq.set i d2, by omega, by congr 1, s1.kept (grown_setCell _ _ _) (by simp; omega), s3, ?_, ?_, ?_, ?_, hid hless.out.2⟩, by simp [intOf]⟩
          · exact (hr25.kept (grown_setCell _ _ _) (by simp; omega)).kept (grown_setCell _ _ _) (by simp; omega)
          · exact (grown_setCell _ _ _).cell ((grown_setCell _ _ _).cell hG15 (by simp; omega)) (by simp; omega)
          · exact (grown_setCell _ _ _).cell ((grown_setCell _ _ _).cell hG25 (by simp; omega)) (by simp; omega)
          · exact grown_new (grown_new hW5 (grown_setCell _ _ _) (fun g' e' => by cases e'; exact h0w)) (grown_setCell _ _ _) (fun g' e' => by cases e'; exact hgw)
        · have hlt' : ¬ (top : Int) < (bor : Int) := by omega
          have hcu1 : cu1.length = n + 1 := by rw [HC1.out.1]; exact HCU.out
          have hright := hid (HK.out.right (by decide) (Nat.le_of_lt HNT.out.1) (by omega) (by omega) hiq HC1.out.1 HC1.out.2.1 (by have := HC1.out.2.2.1; rw [HNT.out.2.2.1] at this; exact this) HC1.out.2.2.2 hit (by rw [← HTT.out.1]; omega) hdb HEST.out.2.1)
          have hi2 : i + (m + 2) < cu1.length := by omega
          have hcc := hr1a.cell _ hi2
          have hff := hr1a.free (i + (m + 2))
          have hlq := HK.out.lq
          have hcq := hrq4.cell i (by omega)
          have hfq := hrq4.free i
          obtain ⟨x1, hx1⟩ : ∃ x, x = cu1[i + (m + 2)] := ⟨_, rfl⟩
          obtain ⟨x2, hx2⟩ : ∃ x, x = cq[i]'(by omega) := ⟨_, rfl⟩
          rw [← hx1] at hcc
          rw [← hx2] at hcq
          have hqi : (i : Int) < (Lq : Int) := by omega
          have hne : gq ≠ g0 := by omega
          clear hx1 hx2 hlq hcu1
          go_wp2
          have s1 := IRow.setv hr1a (i + (m + 2)) 0 0 rfl
          have s2 := IRow.kept hrq4 (grown_setCell w4 ⟨g0, i + (m + 2), none⟩ (.int .u64 0)) (by simp; omega)
          have s3 := IRow.setv s2 i (dd : Int) dd rfl
          refine ⟨⟨i, cu1.set (i + (m + 2)) 0, cq.set i dd, by omega, by congr 1, s1.kept (grown_setCell _ _ _) (by simp; omega), s3, ?_, ?_, ?_, ?_, hid hright.out⟩, by simp [intOf]⟩
          · exact (hr24.kept (grown_setCell _ _ _) (by simp; omega)).kept (grown_setCell _ _ _) (by simp; omega)
          · exact (grown_setCell _ _ _).cell ((grown_setCell _ _ _).cell hG14 (by simp; omega)) (by simp; omega)
          · exact (grown_setCell _ _ _).cell ((grown_setCell _ _ _).cell hG24 (by simp; omega)) (by simp; omega)
          · exact grown_new (grown_new hW4 (grown_setCell _ _ _) (fun g' e' => by cases e'; exact h0w)) (grown_setCell _ _ _) (fun g' e' => by cases e'; exact hgw)
      · obtain rfl : k' = 0 := by omega
        have hcuL : cu.length = n + 1 := HK.out.lu
        have hrd := hr1.rd0 (by omega)
        rw [hcuL] at hrd
        have hcqL : cq.length = Lq := HK.out.lq
        have hrdq := hrq.rd0 (by omega)
        rw [hcqL] at hrdq
        have HDU := hid HK.out.du
        go_wp2_with fail
        refine (shiftDown_any _ (n + 1) (n + 1) s cu _ hrd HDU.out hs (by omega)).mono ?_
        clear hcuL hcqL
        rintro e w4 ⟨rs, rfl, hr4, HR, hg4⟩
        have hres := HK.out.done
        have hqd := HK.out.dq
        have hfin := div_shift (V W64 us) (V W64 vs) (2 ^ s) (Nat.pow_pos (by omega))
        rw [HZ.out.2.1, hfin.1] at hres
        have e2 : V W64 rs = V W64 us % V W64 vs := by rw [HR.out.2.1, hres.2, hfin.2]
        have hrd4 := hr4.rd0 (by rw [HR.out.1]; omega)
        rw [HR.out.1] at hrd4
        have HFIN := hid (And.intro hqd (And.intro HR.out.2.2 (And.intro hres.1 (And.intro e2 HR.out.1))))
        clear hres hqd hfin e2
        go_wp2
        go_ret2
        exact ⟨_, _, Lq, n + 1, cq, rs, rfl, hrdq.keep hg4, hrd4, by omega, by omega, HFIN, grown_trans hW hg4⟩
theorem divide_any (a b : Option Addr) (n m c d : Nat) (us vs : List Nat) (w : World) (h : IRd w .u64 a n c us) (k : IRd w .u64 b (m + 2) d vs) (hu : Dg W64 us) (hv : Dg W64 vs) (hmn : m + 2 ≤ n) (hn : n ≤ 800000000) (hm : m + 2 ≤ 800000000)
    (htop : ∀ t, vs[m + 1]? = some t → 0 < t) :
    Calls Tryz.prog 161 #[.slice a n c, .slice b (m + 2 : Nat) d] w fun e w' => ∃ (a1 a2 : Option Addr) (n1 n2 : Nat) (qs rs : List Nat), e = .returned (.tuple #[.slice a1 n1 n1, .slice a2 n2 n2]) ∧
      IRd w' .u64 a1 n1 n1 qs ∧ IRd w' .u64 a2 n2 n2 rs ∧ n1 ≤ 900000000 ∧ n2 ≤ 900000000 ∧ Hid (Dg W64 qs ∧ Dg W64 rs ∧ V W64 qs = V W64 us / V W64 vs ∧ V W64 rs = V W64 us % V W64 vs) ∧ w.grownBy w' none :=
  (divide_len a b n m c d us vs w h k hu hv hmn hn hm htop).mono fun _ _ ⟨a1, a2, n1, n2, qs, rs, h1, h2, h3, h4, h5, h6, h7⟩ => ⟨a1, a2, n1, n2, qs, rs, h1, h2, h3, h4, h5, hid ⟨h6.out.1, h6.out.2.1, h6.out.2.2.1, h6.out.2.2.2.1⟩, h7⟩
end Go.Proofs.YtdmlcddieadelaaGreatDoor
