/-
  Contracts of functions of the program, part 8: Divide, DivN, RefDiv, GcdA.
-/
import Derived.Test.YtnfmjlomiihcnaaDoorMi7
import Derived.Deep.CutBlock
import Derived.Deep.DeepCutAuto
/-
  Contract of natural.divide: the division by hand.
-/
set_option linter.unusedVariables false
set_option linter.unusedSimpArgs false
namespace Go.Proofs.YtnfmjlomiihcnaaDoor
open Go.RowKit Nm

theorem boxes2 (w : World) (x y : Nat) (T : TypeId) :
    ((w.alloc (.cells #[.int .u64 x] T)).alloc (.cells #[.int .u64 y] T)).drew.cell? ⟨w.heap.size, 0, none⟩ = some (.int .u64 x) ∧
    ((w.alloc (.cells #[.int .u64 x] T)).alloc (.cells #[.int .u64 y] T)).drew.cell? ⟨w.heap.size + 1, 0, none⟩ = some (.int .u64 y) ∧
    w.grownBy ((w.alloc (.cells #[.int .u64 x] T)).alloc (.cells #[.int .u64 y] T)).drew none := by
  refine ⟨?_, ?_, ?_⟩
  · refine (grown_drew _ none).cell ((World.grownBy_alloc _ _ none).cell ?_ (by simp)) (by simp)
    exact (by simp [go_sem])
  · refine (grown_drew _ none).cell ?_ (by simp)
    exact (by simp [go_sem])
  · exact grown_trans (grown_trans (World.grownBy_alloc _ _ none) (World.grownBy_alloc _ _ none)) (grown_drew _ none)

set_option maxRecDepth 100000 in
set_option maxHeartbeats 2000000 in
theorem divide_len (a b : Option Addr) (n m c d : Nat) (us vs : List Nat) (w : World) (h : IRd w .u64 a n c us) (k : IRd w .u64 b (m + 2) d vs) (hu : Dg W64 us) (hv : Dg W64 vs) (hmn : m + 2 ≤ n) (hn : n ≤ 800000) (hm : m + 2 ≤ 800000)
    (htop : ∀ t, vs[m + 1]? = some t → 0 < t) :
    Calls Tryd.prog 50 #[.slice a n c, .slice b (m + 2 : Nat) d] w fun e w' => ∃ (a1 a2 : Option Addr) (n1 n2 : Nat) (qs rs : List Nat), e = .returned (.tuple #[.slice a1 n1 n1, .slice a2 n2 n2]) ∧
      IRd w' .u64 a1 n1 n1 qs ∧ IRd w' .u64 a2 n2 n2 rs ∧ n1 ≤ 900000 ∧ n2 ≤ 900000 ∧ Hid (Dg W64 qs ∧ Dg W64 rs ∧ V W64 qs = V W64 us / V W64 vs ∧ V W64 rs = V W64 us % V W64 vs ∧ rs.length = n + 1) ∧ w.grownBy w' none := by
  have hmax := h.max
  have hcap := h.cap
  have kmax := k.max
  have kcap := k.cap
  have hvl : m + 1 < vs.length := by rw [k.len]; omega
  obtain ⟨bv, ov, rfl, hcv⟩ := k.cel (m + 1) hvl
  obtain ⟨t, ht⟩ : ∃ t, t = vs[m + 1] := ⟨_, rfl⟩
  rw [← ht] at hcv
  have htb : t < W64 := by rw [ht]; exact hv.get _ hvl
  have ht0 : 0 < t := htop t (by rw [List.getElem?_eq_getElem hvl, ht])
  have L1 := hid (lz_any t ht0 htb w)
  have HT := hid ht
  clear ht htop
  have hm1 : (0 : Int) ≤ (m : Int) + 2 - 1 := by omega
  go_enter Tryd.func50, Tryd.ntmps50
  go_upto_region 2 with (go_at_call 84; (with_reducible refine (L1.out).mono ?_); rintro e w' ⟨s, hs, rfl, HLZ, rfl⟩)
  clear hcv L1
  go_upto_region 3 with (first
    | (go_at_call 85; (with_reducible refine (shiftUp_any _ n c s us _ h hu hs (by omega)).mono ?_); rintro e w1 ⟨ys, rfl, hr1, HY, hg1⟩)
    | (go_at_call 85; (with_reducible refine (shiftUp_any _ (m + 2) d s vs _ (k.keep hg1) hv hs (by omega)).mono ?_); rintro e w2 ⟨zs, rfl, hr2, HZ, hg2⟩))
  obtain ⟨g0, hg0⟩ : ∃ g, g = w.heap.size := ⟨_, rfl⟩
  obtain ⟨g1, hg1'⟩ : ∃ g, g = w1.heap.size := ⟨_, rfl⟩
  rw [← hg0] at hr1 ⊢
  rw [← hg1'] at hr2 ⊢
  have h01 : g0 < g1 := by rw [hg1']; exact hr1.lt
  have h12 : g1 < w2.heap.size := hr2.lt
  have hr1 := hr1.kept hg2 (by simp)
  have hW := grown_trans hg1 hg2
  have HG0 := hid hg0
  have h0w : w.heap.size ≤ g0 := by omega
  clear hg0 hg1' hg1 hg2
  have hS : 0 < 2 ^ s := Nat.pow_pos (by omega)
  have hnt := norm_top (W := W64) (S := 2 ^ s) (T := 2 ^ (64 - s)) (by decide) (two_pow_cut s hs) vs zs hv HZ.out.2.2 m t (by rw [k.len]) HZ.out.1 HT.out HZ.out.2.1 (by have := HLZ.out.2.1; unfold W64; omega) (by have := HLZ.out.2.2; unfold W64; omega) hS
  have hzl1 : m + 1 < zs.length := by rw [HZ.out.1]; omega
  have hzl0 : m < zs.length := by rw [HZ.out.1]; omega
  have hc1 := hr2.cell (m + 1) hzl1
  have hc0 := hr2.cell m hzl0
  obtain ⟨first, hfst⟩ : ∃ f, f = zs[m + 1] := ⟨_, rfl⟩
  obtain ⟨second, hsnd⟩ : ∃ f, f = zs[m] := ⟨_, rfl⟩
  rw [← hfst] at hc1 hnt
  rw [← hsnd] at hc0
  have hfb : first < W64 := by rw [hfst]; exact HZ.out.2.2.get _ hzl1
  have hsb : second < W64 := by rw [hsnd]; exact HZ.out.2.2.get _ hzl0
  have HF := hid hfst
  have HS := hid hsnd
  have HNT := hid hnt
  clear hfst hsnd hnt
  have hm2 : (0 : Int) ≤ (m : Int) + 2 - 2 := by omega
  go_upto_region 5 with fail
  go_cut [8, 9] (fun s8 s9 wx => ∃ G1 G2 : Nat, s8 = .pointer (some ⟨G1, 0, none⟩) ∧ s9 = .pointer (some ⟨G2, 0, none⟩) ∧ wx.cell? ⟨G1, 0, none⟩ = some (.int .u64 first) ∧ wx.cell? ⟨G2, 0, none⟩ = some (.int .u64 second) ∧ g1 < G1 ∧ g1 < G2 ∧ w2.grownBy wx none)
  case first =>
    go_region
    · go_wp2_with fail
      go_meet
      have hx := boxes2 w2 first second 59
      exact ⟨_, _, rfl, rfl, hx.1, hx.2.1, h12, by omega, hx.2.2⟩
    · go_wp2_with fail
      go_meet
      have hx := boxes2 w2 second first 59
      exact ⟨_, _, rfl, rfl, hx.2.1, hx.1, by omega, h12, hx.2.2⟩
  case rest =>
    obtain ⟨G1, G2, rfl, rfl, hG1, hG2, h1G, h2G, hg3⟩ := hcut
    replace hr1 := hr1.kept hg3 (by simp)
    replace hr2 := hr2.kept hg3 (by simp)
    replace hW := grown_trans hW hg3
    clear hc1 hc0 hg3 h12
    obtain ⟨Lq, hLq⟩ : ∃ Lq, Lq = n + 1 - (m + 2) := ⟨_, rfl⟩
    have hLqi : (n : Int) + 1 - ((m : Int) + 2) = (Lq : Int) := by omega
    have HLQ := hid hLq
    have hLq1 : Lq + (m + 2) = n + 1 := by omega
    clear hLq
    go_upto_region 8 with (at_make; refine wl_make _ rfl _ _ 61 rfl 59 .u64 8 Tryd.underlying61 (by kernel_rfl) _ _ _ _ rfl rfl Lq (by omega) (by omega) (by omega) (by omega) ?_; intro w3 hr3 hg3)
    clear hLqi
    obtain ⟨gq, hgq⟩ : ∃ g, g = wc.heap.size := ⟨_, rfl⟩
    rw [← hgq] at hr3 ⊢
    have h1q : g1 < gq := by rw [hgq]; exact hr2.lt
    have hG1q : G1 < gq := by rw [hgq]; exact World.block_lt_of_cell? _ _ hG1
    have hG2q : G2 < gq := by rw [hgq]; exact World.block_lt_of_cell? _ _ hG2
    replace hr1 := hr1.kept hg3 (by simp)
    replace hr2 := hr2.kept hg3 (by simp)
    replace hG1 := hg3.cell hG1 (by simp)
    replace hG2 := hg3.cell hG2 (by simp)
    replace hW := grown_trans hW hg3
    have hgw : w.heap.size ≤ gq := by omega
    have HK : Hid (KInv W64 n Lq (V W64 zs) (V W64 us * 2 ^ s) Lq ys (List.replicate Lq 0)) := hid (by
      have hk := KInv.start (W := W64) (n := n) (m := m + 2) (v := V W64 zs) (U := V W64 us) (S := 2 ^ s) (cu := ys) (by decide) (by omega) hmn HY.out.1 HY.out.2.2 HY.out.2.1 (by rw [← h.len]; exact hu.lt) HNT.out.2.2.2 (Nat.pow_pos (by omega))
      rw [← HLQ.out] at hk
      exact hk)
    clear hgq hg3
    go_wp2_with fail
    go_loopw [11] (fun i wr => ∃ (k : Nat) (cu cq : List Nat), k ≤ Lq ∧ i = .int .i64 ((k : Int) - 1) ∧ IRow wr g0 59 .u64 cu ∧ IRow wr gq 59 .u64 cq ∧ IRow wr g1 59 .u64 zs ∧ wr.cell? ⟨G1, 0, none⟩ = some (.int .u64 first) ∧ wr.cell? ⟨G2, 0, none⟩ = some (.int .u64 second) ∧
        w.grownBy wr none ∧ Hid (KInv W64 n Lq (V W64 zs) (V W64 us * 2 ^ s) k cu cq)) (fun i _ => (intOf i + 1).toNat)
    case atStart => exact ⟨Lq, ys, _, Nat.le_refl _, rfl, hr1, hr3, hr2, hG1, hG2, hW, HK⟩
    case round =>
      clear hr1 hr2 hr3 hG1 hG2 hW HK
      obtain ⟨k', cu, cq, hk', rfl, hr1, hrq, hr2, hG1, hG2, hW, HK⟩ := hrel
      by_cases h0 : 0 < k'
      · obtain ⟨i, rfl⟩ : ∃ i, k' = i + 1 := ⟨k' - 1, by omega⟩
        have hlu := HK.out.lu
        have hlq := HK.out.lq
        have hit : i + (m + 2) < cu.length := by omega
        have him : i + (m + 1) < cu.length := by omega
        have hil : i + m < cu.length := by omega
        have hct := hr1.cell _ hit
        have hcm := hr1.cell _ him
        have hcl := hr1.cell _ hil
        obtain ⟨top, ht⟩ : ∃ x, x = cu[i + (m + 2)] := ⟨_, rfl⟩
        obtain ⟨mid, hmd⟩ : ∃ x, x = cu[i + (m + 1)] := ⟨_, rfl⟩
        obtain ⟨low, hlw⟩ : ∃ x, x = cu[i + m] := ⟨_, rfl⟩
        rw [← ht] at hct
        rw [← hmd] at hcm
        rw [← hlw] at hcl
        have hdu := HK.out.du
        have htb' : top < W64 := by rw [ht]; exact hdu.get _ hit
        have hmb : mid < W64 := by rw [hmd]; exact hdu.get _ him
        have hlb : low < W64 := by rw [hlw]; exact hdu.get _ hil
        have hi0 : (0 : Int) ≤ (i : Int) := by omega
        have hi1 : (i : Int) + ((m : Int) + 2) < (n : Int) + 1 := by omega
        have hck : ¬ (n + 1 = i) := by omega
        have HTT := hid (And.intro ht (And.intro hmd hlw))

        clear ht hmd hlw hdu hlu hlq
        have HD : ∀ q, Hid (Calls Tryd.prog 86 #[.int .u64 top, .int .u64 mid, .int .u64 low, .pointer (some ⟨G1, 0, none⟩), .pointer (some ⟨G2, 0, none⟩)] (wr.drewN q) fun e w' => e = .returned (.int .u64 (dgt first second top mid low : Nat)) ∧ ∃ n, w' = (wr.drewN q).drewN n) := fun q =>
          hid (digit_q top mid low first second htb' hmb hlb hfb hsb ⟨G1, 0, none⟩ ⟨G2, 0, none⟩ (wr.drewN q) hG1 hG2)
        have HDD := hid HD
        clear HD
        have hlen : i + (m + 2) - i = m + 2 := by omega
        go_wp2_with fail
        go_quiet ((go_at_call 86; exact Calls.quiet_of (HDD.out _).out))
        clear HDD hct hcm hcl
        obtain ⟨dd, hdd⟩ : ∃ x, x = dgt first second top mid low := ⟨_, rfl⟩
        rw [← hdd]
        have hest := HK.out.digit (by decide) HNT.out.1 HZ.out.2.2 HZ.out.1 rfl HNT.out.2.2.1 HF.out HS.out HNT.out.2.1 hit (d := dd) (by rw [hdd, ← HTT.out.1, ← HTT.out.2.1, ← HTT.out.2.2]; rfl)
        have hdb : dd < W64 := hest.1
        have HEST := hid hest
        clear hdd hest
        have hzd : Dg W64 (zs.take (m + 2)) := HZ.out.2.2.take _
        have hrd := IRow.rd (w := wr.drewN nq) hr2 0 (m + 2) (m + 2 + 1) (by rw [HZ.out.1]; omega) (by omega) (by omega)
        rw [List.drop_zero] at hrd
        have hiq : i < Lq := by omega
        have hcuL : cu.length = n + 1 := HK.out.lu
        have HCU := hid hcuL
        go_wp2_with fail
        refine (subProduct_any g0 i _ cu (zs.take (m + 2)) _ (m + 2) _ dd (wr.drewN nq) hr1 hrd (by intro p hp; cases hp; simp; omega) (by omega) (by omega) HK.out.du hzd hdb).mono ?_
        clear hcuL
        rintro e w4 ⟨bor, cu1, rfl, hbor, hr1a, hg4, HC1⟩
        have hW4 : w.grownBy w4 none := grown_new (gdN hW nq) hg4 (fun g' e' => by cases e'; exact h0w)
        have hrq4 := IRow.kept (w := wr.drewN nq) hrq hg4 (by simp; omega)
        have hr24 := IRow.kept (w := wr.drewN nq) hr2 hg4 (by simp; omega)
        have hG14 := hg4.cell (a := ⟨G1, 0, none⟩) hG1 (by simp; omega)
        have hG24 := hg4.cell (a := ⟨G2, 0, none⟩) hG2 (by simp; omega)
        clear hr1 hrq hr2 hG1 hG2 hW hg4 hrd
        by_cases hlt : top < bor
        · have hlt' : (top : Int) < (bor : Int) := by omega
          have hrd := hr24.rd 0 (m + 2) (m + 2 + 1) (by rw [HZ.out.1]; omega) (by omega) (by omega)
          rw [List.drop_zero] at hrd
          have hcu1 : cu1.length = n + 1 := by rw [HC1.out.1]; exact HCU.out
          go_wp2_with fail
          refine (addWords_any g0 i _ cu1 (zs.take (m + 2)) _ (m + 2) _ w4 hr1a hrd (by intro p hp; cases hp; simp; omega) (by omega) (by omega) HC1.out.2.1 hzd).mono ?_
          rintro e w5 ⟨cy, cu2, rfl, hr1b, hg5, HC2⟩
          have hW5 : w.grownBy w5 none := grown_new hW4 hg5 (fun g' e' => by cases e'; exact h0w)
          have hrq5 := hrq4.kept hg5 (by simp; omega)
          have hr25 := hr24.kept hg5 (by simp; omega)
          have hG15 := hg5.cell hG14 (by simp; omega)
          have hG25 := hg5.cell hG24 (by simp; omega)
          clear hr1a hrq4 hr24 hG14 hG24 hW4 hg5 hrd
          have hless := hid (HK.out.less (by decide) (Nat.le_of_lt HNT.out.1) (by omega) (by omega) hiq HC1.out.1 HC1.out.2.1 (by have := HC1.out.2.2.1; rw [HNT.out.2.2.1] at this; exact this) HC1.out.2.2.2 hit (by rw [← HTT.out.1]; exact hlt) hdb HEST.out.2.2
            HC2.out.1 HC2.out.2.1 (by have := HC2.out.2.2.1; rw [HNT.out.2.2.1] at this; exact this) HC2.out.2.2.2)
          have hcu2 : cu2.length = n + 1 := by rw [HC2.out.1]; exact hcu1
          have hi2 : i + (m + 2) < cu2.length := by omega
          have hcc := hr1b.cell _ hi2
          have hff := hr1b.free (i + (m + 2))
          have hlq := HK.out.lq
          have hcq := hrq5.cell i (by omega)
          have hfq := hrq5.free i
          obtain ⟨x1, hx1⟩ : ∃ x, x = cu2[i + (m + 2)] := ⟨_, rfl⟩
          obtain ⟨x2, hx2⟩ : ∃ x, x = cq[i]'(by omega) := ⟨_, rfl⟩
          rw [← hx1] at hcc
          rw [← hx2] at hcq
          obtain ⟨d2, hd2⟩ : ∃ x, x = dd - 1 := ⟨_, rfl⟩
          have hde : IntKind.u64.wrap ((dd : Int) - 1) = (d2 : Int) := by rw [IntKind.wrap_u64]; have := hless.out.1; unfold W64 at hdb; omega
          rw [← hd2] at hless
          have hqi : (i : Int) < (Lq : Int) := by omega
          have hne : gq ≠ g0 := by omega
          clear hx1 hx2 hd2 hlq hcu2 hcu1
          go_wp2
          have s1 := IRow.setv hr1b (i + (m + 2)) 0 0 rfl
          have s2 := IRow.kept hrq5 (grown_setCell w5 ⟨g0, i + (m + 2), none⟩ (.int .u64 0)) (by simp; omega)
          have s3 := IRow.setv s2 i (d2 : Int) d2 rfl
          refine ⟨⟨i, cu2.set (i + (m + 2)) 0, cq.set i d2, by omega, by congr 1, s1.kept (grown_setCell _ _ _) (by simp; omega), s3, ?_, ?_, ?_, ?_, hid hless.out.2⟩, by simp [intOf]⟩
          · exact (hr25.kept (grown_setCell _ _ _) (by simp; omega)).kept (grown_setCell _ _ _) (by simp; omega)
          · exact (grown_setCell _ _ _).cell ((grown_setCell _ _ _).cell hG15 (by simp; omega)) (by simp; omega)
          · exact (grown_setCell _ _ _).cell ((grown_setCell _ _ _).cell hG25 (by simp; omega)) (by simp; omega)
          · exact grown_new (grown_new hW5 (grown_setCell _ _ _) (fun g' e' => by cases e'; exact h0w)) (grown_setCell _ _ _) (fun g' e' => by cases e'; exact hgw)
        · have hlt' : ¬ (top : Int) < (bor : Int) := by omega
          have hcu1 : cu1.length = n + 1 := by rw [HC1.out.1]; exact HCU.out
          have hright := hid (HK.out.right (by decide) (Nat.le_of_lt HNT.out.1) (by omega) (by omega) hiq HC1.out.1 HC1.out.2.1 (by have := HC1.out.2.2.1; rw [HNT.out.2.2.1] at this; exact this) HC1.out.2.2.2 hit (by rw [← HTT.out.1]; omega) hdb HEST.out.2.1)
          have hi2 : i + (m + 2) < cu1.length := by omega
          have hcc := hr1a.cell _ hi2
          have hff := hr1a.free (i + (m + 2))
          have hlq := HK.out.lq
          have hcq := hrq4.cell i (by omega)
          have hfq := hrq4.free i
          obtain ⟨x1, hx1⟩ : ∃ x, x = cu1[i + (m + 2)] := ⟨_, rfl⟩
          obtain ⟨x2, hx2⟩ : ∃ x, x = cq[i]'(by omega) := ⟨_, rfl⟩
          rw [← hx1] at hcc
          rw [← hx2] at hcq
          have hqi : (i : Int) < (Lq : Int) := by omega
          have hne : gq ≠ g0 := by omega
          clear hx1 hx2 hlq hcu1
          go_wp2
          have s1 := IRow.setv hr1a (i + (m + 2)) 0 0 rfl
          have s2 := IRow.kept hrq4 (grown_setCell w4 ⟨g0, i + (m + 2), none⟩ (.int .u64 0)) (by simp; omega)
          have s3 := IRow.setv s2 i (dd : Int) dd rfl
          refine ⟨⟨i, cu1.set (i + (m + 2)) 0, cq.set i dd, by omega, by congr 1, s1.kept (grown_setCell _ _ _) (by simp; omega), s3, ?_, ?_, ?_, ?_, hid hright.out⟩, by simp [intOf]⟩
          · exact (hr24.kept (grown_setCell _ _ _) (by simp; omega)).kept (grown_setCell _ _ _) (by simp; omega)
          · exact (grown_setCell _ _ _).cell ((grown_setCell _ _ _).cell hG14 (by simp; omega)) (by simp; omega)
          · exact (grown_setCell _ _ _).cell ((grown_setCell _ _ _).cell hG24 (by simp; omega)) (by simp; omega)
          · exact grown_new (grown_new hW4 (grown_setCell _ _ _) (fun g' e' => by cases e'; exact h0w)) (grown_setCell _ _ _) (fun g' e' => by cases e'; exact hgw)
      · obtain rfl : k' = 0 := by omega
        have hcuL : cu.length = n + 1 := HK.out.lu
        have hrd := hr1.rd0 (by omega)
        rw [hcuL] at hrd
        have hcqL : cq.length = Lq := HK.out.lq
        have hrdq := hrq.rd0 (by omega)
        rw [hcqL] at hrdq
        have HDU := hid HK.out.du
        go_wp2_with fail
        refine (shiftDown_any _ (n + 1) (n + 1) s cu _ hrd HDU.out hs (by omega)).mono ?_
        clear hcuL hcqL
        rintro e w4 ⟨rs, rfl, hr4, HR, hg4⟩
        have hres := HK.out.done
        have hqd := HK.out.dq
        have hfin := div_shift (V W64 us) (V W64 vs) (2 ^ s) (Nat.pow_pos (by omega))
        rw [HZ.out.2.1, hfin.1] at hres
        have e2 : V W64 rs = V W64 us % V W64 vs := by rw [HR.out.2.1, hres.2, hfin.2]
        have hrd4 := hr4.rd0 (by rw [HR.out.1]; omega)
        rw [HR.out.1] at hrd4
        have HFIN := hid (And.intro hqd (And.intro HR.out.2.2 (And.intro hres.1 (And.intro e2 HR.out.1))))
        clear hres hqd hfin e2
        go_wp2
        go_ret2
        exact ⟨_, _, Lq, n + 1, cq, rs, rfl, hrdq.keep hg4, hrd4, by omega, by omega, HFIN, grown_trans hW hg4⟩
theorem divide_any (a b : Option Addr) (n m c d : Nat) (us vs : List Nat) (w : World) (h : IRd w .u64 a n c us) (k : IRd w .u64 b (m + 2) d vs) (hu : Dg W64 us) (hv : Dg W64 vs) (hmn : m + 2 ≤ n) (hn : n ≤ 800000) (hm : m + 2 ≤ 800000)
    (htop : ∀ t, vs[m + 1]? = some t → 0 < t) :
    Calls Tryd.prog 50 #[.slice a n c, .slice b (m + 2 : Nat) d] w fun e w' => ∃ (a1 a2 : Option Addr) (n1 n2 : Nat) (qs rs : List Nat), e = .returned (.tuple #[.slice a1 n1 n1, .slice a2 n2 n2]) ∧
      IRd w' .u64 a1 n1 n1 qs ∧ IRd w' .u64 a2 n2 n2 rs ∧ n1 ≤ 900000 ∧ n2 ≤ 900000 ∧ Hid (Dg W64 qs ∧ Dg W64 rs ∧ V W64 qs = V W64 us / V W64 vs ∧ V W64 rs = V W64 us % V W64 vs) ∧ w.grownBy w' none :=
  (divide_len a b n m c d us vs w h k hu hv hmn hn hm htop).mono fun _ _ ⟨a1, a2, n1, n2, qs, rs, h1, h2, h3, h4, h5, h6, h7⟩ => ⟨a1, a2, n1, n2, qs, rs, h1, h2, h3, h4, h5, hid ⟨h6.out.1, h6.out.2.1, h6.out.2.2.1, h6.out.2.2.2.1⟩, h7⟩
end Go.Proofs.YtnfmjlomiihcnaaDoor

/-
  Contract of natural.DivMod: the quotient and the rest of any numbers, or the error.
-/
set_option linter.unusedVariables false
set_option linter.unusedSimpArgs false
namespace Go.Proofs.YtnfmjlomiihcnaaDoor
open Go.RowKit Nm

theorem IsC.len_le {w : World} {p : Option Addr} {n c N k : Nat} (h : IsC w p n c N) (hN : N < 65536 ^ k) : n ≤ k := by rw [← h.len]; exact dg_length_le (by omega) hN

theorem natDivMod_zero (a b : Option Addr) (n m c d : Nat) (xs ys : List Nat) (w : World) (h : IRd w .u16 a n c xs) (k : IRd w .u16 b m d ys) (hy : Dg 65536 ys) (h0 : V 65536 ys = 0) :
    Calls Tryd.prog 12 #[.slice a n c, .slice b m d] w fun e w' => e = .returned (.tuple #[.slice none 0 0, .slice none 0 0, .int .i64 3]) ∧ w = w' := by
  have R1 := hid (trim16 a n c xs w h)
  have R2 := hid (trim16 b m d ys w k)
  have hl : (trimR ys).length = 0 := by
    rw [trimR_dg (by omega) hy, h0]; rfl
  rw [hl] at R2
  clear hl h0
  generalize (trimR xs).length = lx at *
  go_enter Tryd.func12, Tryd.ntmps12
  go_wp2_with (first
    | (go_at_call 44; (with_reducible refine (R1.out).mono ?_); rintro e w' ⟨rfl, rfl⟩)
    | (go_at_call 44; (with_reducible refine (R2.out).mono ?_); rintro e w' ⟨rfl, rfl⟩))
  go_ret3
  exact ⟨rfl, rfl⟩

theorem len_words {ys : List Nat} (h : Nm.Can 65536 ys) (hl : 4 < ys.length) (vs : List Nat) (hv : Dg W64 vs) (m : Nat) (hm : m + 2 = (ys.length + 3) / 4) (lv : vs.length = m + 2) (e : V W64 vs = V 65536 ys) :
    ∀ t, vs[m + 1]? = some t → 0 < t := by
  intro t ht
  rcases Nat.eq_zero_or_pos t with h0 | h0
  · exfalso
    subst h0
    have hvl : m + 1 < vs.length := by omega
    rw [List.getElem?_eq_getElem hvl] at ht
    have a1 := V_take_drop (B := W64) vs (m + 1) (by omega)
    have a2 := V_drop_succ (B := W64) vs (m + 1) hvl
    rw [show vs.drop (m + 1 + 1) = [] from List.drop_of_length_le (by omega), Option.some.inj ht] at a2
    simp only [V_nil, Nat.mul_zero, Nat.add_zero] at a2
    rw [a2, Nat.mul_zero, Nat.add_zero] at a1
    have a3 := (hv.take (m + 1)).lt
    rw [List.length_take, Nat.min_eq_left (by omega), ← a1, e, W64_eq, ← Nat.pow_mul] at a3
    have a4 := h.low (by omega) (by intro e; subst e; simp at hl)
    have a5 : 65536 ^ (4 * (m + 1)) ≤ 65536 ^ (ys.length - 1) := Nat.pow_le_pow_right (by omega) (by omega)
    omega
  · exact h0

set_option maxHeartbeats 2000000 in
theorem natDivMod_any (a b : Option Addr) (n m c d : Nat) (xs ys : List Nat) (w : World) (h : IRd w .u16 a n c xs) (k : IRd w .u16 b m d ys) (hx : Dg 65536 xs) (hy : Dg 65536 ys) (hn : n ≤ 800000) (hm : m ≤ 800000) (hpos : 0 < V 65536 ys) :
    Calls Tryd.prog 12 #[.slice a n c, .slice b m d] w (DmPost w (V 65536 xs) (V 65536 ys)) := by
  by_cases hsm : (trimR xs).length ≤ 4 ∧ (trimR ys).length ≤ (trimR xs).length
  · exact natDivMod_small a b n m c d xs ys w h k hx hy hsm.1 hsm.2 hpos
  have ht := h.take (trimR xs).length (by rw [← h.len]; exact trimR_length_le xs)
  have kt := k.take (trimR ys).length (by rw [← k.len]; exact trimR_length_le ys)
  rw [← trimR_eq_take] at ht kt
  have hcx := Can_trimR hx
  have hcy := Can_trimR hy
  have hvx := V_trimR (B := 65536) xs
  have hvy := V_trimR (B := 65536) ys
  have hnl : (trimR xs).length ≤ n := by rw [← h.len]; exact trimR_length_le xs
  have hml : (trimR ys).length ≤ m := by rw [← k.len]; exact trimR_length_le ys
  have R1 := hid (trim16 a n c xs w h)
  have R2 := hid (trim16 b m d ys w k)
  have hcap := ht.cap
  have kcap := kt.cap
  have hmax := ht.max
  have kmax := kt.max
  rw [← hvy] at hpos ⊢
  rw [← hvx]
  generalize trimR xs = us at *
  generalize trimR ys = vs at *
  clear hvx hvy h k
  have hv0 : 0 < vs.length := by
    rcases Nat.eq_zero_or_pos vs.length with h0 | h0
    · rw [List.eq_nil_of_length_eq_zero h0] at hpos; simp at hpos
    · exact h0
  have e1 : (((vs.length : Int) == 0) = false) := beq_eq_false_iff_ne.2 (by omega)
  by_cases hlt : us.length < vs.length
  · have e2 : ((us.length : Int) < (vs.length : Int)) := by omega
    have hval := Nm.Can.lt_of_length (B := 65536) (by omega) hcx.1 hcy hlt
    have hq : V 65536 us / V 65536 vs = 0 := Nat.div_eq_of_lt hval
    have hr : V 65536 us % V 65536 vs = V 65536 us := Nat.mod_eq_of_lt hval
    have HU := hid (eq_dg (by omega) hcx)
    have HPOST : Hid (∀ p cc W, IRd W .u16 p us.length cc us → w.grownBy W none → DmPost w (V 65536 us) (V 65536 vs) (.returned (.tuple #[.slice none 0 0, .slice p us.length cc, .int .i64 0])) W) := hid (fun p cc W h1 h2 => by
      have hl : (dg 65536 (V 65536 us)).length = us.length := by rw [← HU.out]
      refine ⟨none, p, 0, cc, ?_, ?_, ?_, h2⟩
      · rw [hq, hr, hl]; rfl
      · rw [hq]; exact IRd.nil _ _
      · rw [hr, ← HU.out]; exact h1)
    clear hval hq hr
    go_enter Tryd.func12, Tryd.ntmps12
    go_wp2_with (first
      | (go_at_call 44; (with_reducible refine (R1.out).mono ?_); rintro e w' ⟨rfl, rfl⟩)
      | (go_at_call 44; (with_reducible refine (R2.out).mono ?_); rintro e w' ⟨rfl, rfl⟩)
      | (go_at_call 45; refine (clone_any _ _ _ us _ ht (by omega)).mono ?_; rintro e w2 ⟨rfl, hr2, hg2⟩))
    go_ret3
    exact HPOST.out _ _ _ (hr2.rd0 (by omega)) hg2
  · have e2 : ¬ ((us.length : Int) < (vs.length : Int)) := by omega
    have e3 : ¬ ((us.length : Int) ≤ 4) := by omega
    by_cases h4 : vs.length ≤ 4
    · have e4 : ((vs.length : Int) ≤ 4) := by omega
      have hyb : V 65536 vs < W64 := by rw [W64_eq]; exact V_word hcy.1 4 h4
      have HP := hid (pack_any a us.length c us w ht hcx.1 (by omega))
      go_enter Tryd.func12, Tryd.ntmps12
      go_wp2_with (first
        | (go_at_call 44; (with_reducible refine (R1.out).mono ?_); rintro e w' ⟨rfl, rfl⟩)
        | (go_at_call 44; (with_reducible refine (R2.out).mono ?_); rintro e w' ⟨rfl, rfl⟩))
      refine HP.out.mono ?_
      rintro e w1 ⟨L, zs, rfl, hr1, HZ, hg1⟩
      have HW := hid (word_any b vs.length d vs w1 (kt.keep hg1) hcy.1 h4)
      have hLz : zs.length = L := HZ.out.2.1
      have hLb : L ≤ 200001 := by have := HZ.out.1; omega
      have HD := hid (divW_any w.heap.size L L zs (V 65536 vs) w1 hr1 (by omega) (Nat.le_refl _) (by omega) (by omega) HZ.out.2.2.2 hpos hyb)
      have HLz := hid hLz
      clear hLz
      generalize hyv : V 65536 vs = Y at *
      have HY := hid hyv
      clear hyv
      go_wp2_with (first
        | (go_at_call 46; (with_reducible refine (HW.out).mono ?_); rintro e w' ⟨rfl, rfl⟩)
        | (go_at_call 48; (with_reducible refine (HD.out).mono ?_); rintro e w2 ⟨cu, rfl, hr2, hg2, HC⟩))
      have hcl : cu.length = L := by rw [HC.out.1, HLz.out]
      have hrd := hr2.rd0 (by omega)
      rw [hcl] at hrd
      have hq0 : V W64 cu = V 65536 us / Y := by
        have h1 := HC.out.2.2.1
        rw [List.take_of_length_le (by omega), List.take_of_length_le (by rw [HLz.out]; exact Nat.le_refl _), HZ.out.2.2.1] at h1
        exact h1
      have hr0 : V W64 (List.take L zs) = V 65536 us := by rw [List.take_of_length_le (by rw [HLz.out]; exact Nat.le_refl _), HZ.out.2.2.1]
      have hrb : V 65536 us % Y < W64 := Nat.lt_trans (Nat.mod_lt _ hpos) hyb
      have HU := hid (unpack_any _ L L cu _ hrd HC.out.2.1 (by omega))
      rw [hq0] at HU
      rw [hr0]
      have hgw : w.grownBy w2 none := grown_new hg1 hg2 (fun g' e' => by cases e'; exact Nat.le_refl _)
      clear hcl hrd hq0 hr0 hg1 hg2 hr1 hr2 HD HW HP
      generalize hqq : V 65536 us / Y = QQ at *
      generalize hrr : V 65536 us % Y = RR at *
      have HQQ := hid hqq
      have HRR := hid hrr
      clear hqq hrr
      have HPOST : Hid (∀ p1 c1 p2 c2 W, IRd W .u16 p1 (dg 65536 QQ).length c1 (dg 65536 QQ) → IRd W .u16 p2 (dg 65536 RR).length c2 (dg 65536 RR) → w.grownBy W none → DmPost w (V 65536 us) Y (.returned (.tuple #[.slice p1 (dg 65536 QQ).length c1, .slice p2 (dg 65536 RR).length c2, .int .i64 0])) W) := hid (fun p1 c1 p2 c2 W g1 g2 g3 => by
        refine ⟨p1, p2, c1, c2, ?_, ?_, ?_, g3⟩
        · rw [HQQ.out, HRR.out]
        · rw [HQQ.out]; exact g1
        · rw [HRR.out]; exact g2)
      refine HU.out.mono ?_
      rintro e w3 ⟨p1, c1, rfl, hr3, hg3⟩
      have HZI : Hid (((V 65536 us : Nat) : Int) % (Y : Int) = (RR : Int)) := hid (by rw [← HRR.out]; simp)
      go_wp2_with fail
      first
        | with_reducible refine (of_at _ RR HZI.out hrb _).mono ?_
        | with_reducible refine (of_at _ RR rfl hrb _).mono ?_
      rintro e w4 ⟨p2, c2, rfl, hr4, hg4⟩
      go_wp2_with fail
      go_ret3
      exact HPOST.out _ _ _ _ _ (hr3.keep hg4) hr4 (grown_trans hgw (grown_trans hg3 hg4))
    · have e4 : ¬ ((vs.length : Int) ≤ 4) := by omega
      have HP := hid (pack_any a us.length c us w ht hcx.1 (by omega))
      go_enter Tryd.func12, Tryd.ntmps12
      go_wp2_with (first
        | (go_at_call 44; (with_reducible refine (R1.out).mono ?_); rintro e w' ⟨rfl, rfl⟩)
        | (go_at_call 44; (with_reducible refine (R2.out).mono ?_); rintro e w' ⟨rfl, rfl⟩))
      refine HP.out.mono ?_
      rintro e w1 ⟨L, zs, rfl, hr1, HZ, hg1⟩
      go_wp2_with fail
      refine (pack_any b vs.length d vs w1 (kt.keep hg1) hcy.1 (by omega)).mono ?_
      rintro e w2 ⟨M', ws, rfl, hr2, HWS, hg2⟩
      obtain ⟨M, hM⟩ : ∃ M, M' = M + 2 := ⟨M' - 2, by have := HWS.out.1; omega⟩
      subst hM
      have hlz := HZ.out.2.1
      have hlw := HWS.out.2.1
      have hrd1 := (hr1.kept hg2 (by simp)).rd0 (by have := HZ.out.1; omega)
      have hrd2 := hr2.rd0 (by have := HWS.out.1; omega)
      rw [hlz] at hrd1
      rw [hlw] at hrd2
      have HDV := hid (divide_any _ _ L M L (M + 2) zs ws w2 hrd1 hrd2 HZ.out.2.2.2 HWS.out.2.2.2 (by have := HZ.out.1; have := HWS.out.1; omega) (by have := HZ.out.1; omega) (by have := HWS.out.1; omega)
        (len_words hcy (by omega) ws HWS.out.2.2.2 M HWS.out.1 hlw HWS.out.2.2.1))
      have hgw := grown_trans hg1 hg2
      have hVz := HZ.out.2.2.1
      have hVw := HWS.out.2.2.1
      rw [hVz, hVw] at HDV
      clear hlz hlw hrd1 hrd2 hr1 hr2 hg1 hg2 hVz hVw HP
      go_wp2_with fail
      refine HDV.out.mono ?_
      rintro e w3 ⟨a1, a2, n1, n2, qs, rs, rfl, hq3, hr3, hn1, hn2, HF, hg3⟩
      generalize hqq : V 65536 us / V 65536 vs = QQ at *
      generalize hrr : V 65536 us % V 65536 vs = RR at *
      have HQQ := hid hqq
      have HRR := hid hrr
      clear hqq hrr
      have HPOST : Hid (∀ p1 c1 p2 c2 W, IRd W .u16 p1 (dg 65536 QQ).length c1 (dg 65536 QQ) → IRd W .u16 p2 (dg 65536 RR).length c2 (dg 65536 RR) → w.grownBy W none → DmPost w (V 65536 us) (V 65536 vs) (.returned (.tuple #[.slice p1 (dg 65536 QQ).length c1, .slice p2 (dg 65536 RR).length c2, .int .i64 0])) W) := hid (fun p1 c1 p2 c2 W g1 g2 g3 => by
        refine ⟨p1, p2, c1, c2, ?_, ?_, ?_, g3⟩
        · rw [HQQ.out, HRR.out]
        · rw [HQQ.out]; exact g1
        · rw [HRR.out]; exact g2)
      have hU1 := unpack_any _ n1 n1 qs _ hq3 HF.out.1 (by omega)
      rw [HF.out.2.2.1] at hU1
      have HU1 := hid hU1
      have hU2 := fun w4 (hg4 : w3.grownBy w4 none) => unpack_any _ n2 n2 rs _ (hr3.keep hg4) HF.out.2.1 (by omega)
      rw [HF.out.2.2.2] at hU2
      have HU2 := hid hU2
      clear hU1 hU2 HDV
      go_wp2_with fail
      refine HU1.out.mono ?_
      rintro e w4 ⟨p1, c1, rfl, hr4, hg4⟩
      go_wp2_with fail
      refine (HU2.out _ hg4).mono ?_
      rintro e w5 ⟨p2, c2, rfl, hr5, hg5⟩
      go_wp2_with fail
      go_ret3
      exact HPOST.out _ _ _ _ _ (hr4.keep hg5) hr5 (grown_trans hgw (grown_trans hg3 (grown_trans hg4 hg5)))

section
variable {w w' : World} {p q : Option Addr} {n c m d N M : Nat}
theorem natDivMod_n (hA : IsN w p n c N) (hB : IsN w q m d M) (hn : n ≤ 800000) (hm : m ≤ 800000) (hpos : 0 < M) :
    Calls Tryd.prog 12 #[.slice p n c, .slice q m d] w fun e w' => ∃ (p1 : Option Addr) (n1 c1 : Nat) (p2 : Option Addr) (n2 c2 : Nat), e = .returned (.tuple #[.slice p1 n1 c1, .slice p2 n2 c2, .int .i64 0]) ∧
      IsC w' p1 n1 c1 (N / M) ∧ IsC w' p2 n2 c2 (N % M) ∧ n1 ≤ n ∧ n2 ≤ n ∧ n2 ≤ m ∧ w.grownBy w' none := by
  have lA := hA.lt
  have lB := hB.lt
  obtain ⟨L, h1, h2, rfl⟩ := hA
  obtain ⟨K, k1, k2, rfl⟩ := hB
  refine (natDivMod_any p q n m c d L K w h1 k1 h2 k2 hn hm hpos).mono fun e w' ⟨a1, a2, c1, c2, he, g1, g2, hg⟩ => ⟨a1, _, c1, a2, _, c2, he, g1, g2, ?_, ?_, ?_, hg⟩
  · exact dg_length_le (by omega) (Nat.lt_of_le_of_lt (Nat.div_le_self _ _) lA)
  · exact dg_length_le (by omega) (Nat.lt_of_le_of_lt (Nat.mod_le _ _) lA)
  · exact dg_length_le (by omega) (Nat.lt_trans (Nat.mod_lt _ hpos) lB)

theorem natDivMod_e (hA : IsN w p n c N) (hB : IsN w q m d 0) :
    Calls Tryd.prog 12 #[.slice p n c, .slice q m d] w fun e w' => e = .returned (.tuple #[.slice none 0 0, .slice none 0 0, .int .i64 3]) ∧ w.grownBy w' none := by
  obtain ⟨L, h1, h2, _⟩ := hA
  obtain ⟨K, k1, k2, k3⟩ := hB
  exact (natDivMod_zero p q n m c d L K w h1 k1 k2 k3).mono fun e w' ⟨he, hw⟩ => ⟨he, hw ▸ grown_refl _ _⟩
end
end Go.Proofs.YtnfmjlomiihcnaaDoor

/-
  Contracts of the reference's digit and DivMod.
-/
set_option linter.unusedVariables false
set_option linter.unusedSimpArgs false
namespace Go.Proofs.YtnfmjlomiihcnaaDoor
open Go.RowKit Nm

theorem refOf_c (x : Nat) (hx : x < W64) (w : World) : Calls Tryd.prog 52 #[.int .u64 x] w fun e w' => ∃ p n c, e = .returned (.slice p n c) ∧ IsC w' p n c x ∧ n ≤ 4 ∧ w.grownBy w' none :=
  (refOf_any x hx w).mono fun e w' ⟨p, c, he, hr, hg⟩ => ⟨p, _, c, he, hr, dg_length_le (by omega) (by rw [← W64_eq]; exact hx), hg⟩

set_option maxHeartbeats 1000000 in
theorem refDigit_n {w : World} {p q : Option Addr} {n c m d R B : Nat} (hR : IsN w p n c R) (hB : IsN w q m d B) (hm : m ≤ 300000) (hpos : 0 < B) (hlt : R < 65536 * B) :
    Calls Tryd.prog 54 #[.slice p n c, .slice q m d] w fun e w' => e = .returned (.int .u64 (R / B : Nat)) ∧ w.grownBy w' none := by
  have hq : R / B ≤ 65535 := by
    have := Nat.div_lt_of_lt_mul (by rw [Nat.mul_comm] at hlt; exact hlt)
    omega
  obtain ⟨Q, hQ⟩ : ∃ Q, Q = R / B := ⟨_, rfl⟩
  have hcmp : ∀ k, k ≤ Q ↔ B * k ≤ R := fun k => by rw [hQ, Nat.le_div_iff_mul_le hpos, Nat.mul_comm]
  have HC := hid hcmp
  rw [← hQ] at hq ⊢
  clear hcmp hQ hlt
  go_enter Tryd.func54, Tryd.ntmps54
  go_wp2_with fail
  go_loopw [5, 6] (fun s5 s6 wr => ∃ lo hi : Nat, s5 = .int .u64 lo ∧ s6 = .int .u64 hi ∧ lo ≤ Q ∧ Q ≤ hi ∧ hi ≤ 65535 ∧ w.grownBy wr none) (fun s5 s6 _ => (intOf s6 - intOf s5).toNat)
  case atStart => exact ⟨0, 65535, rfl, rfl, by omega, hq, by omega, grown_refl _ _⟩
  case round =>
    obtain ⟨lo, hi, rfl, rfl, h1, h2, h3, hgr⟩ := hrel
    by_cases hlt : lo < hi
    · have hlt' : (lo : Int) < (hi : Int) := by omega
      obtain ⟨mid, hmid⟩ : ∃ mid, mid = (lo + hi + 1) / 2 := ⟨_, rfl⟩
      have e1 : ((lo : Int) + (hi : Int) + 1) / 2 = (mid : Int) := by omega
      have hm1 : lo < mid := by omega
      have hm2 : mid ≤ hi := by omega
      obtain ⟨mid1, hmid1⟩ : ∃ mid1, mid1 = mid - 1 := ⟨_, rfl⟩
      have e2 : (mid : Int) - 1 = (mid1 : Int) := by omega
      have hB' := hB.keep hgr
      have hR' := hR.keep hgr
      have HMM := hid (And.intro hmid hmid1)
      clear hmid hmid1
      go_wp2_with fail
      refine (refOf_c mid (by unfold W64; omega) _).mono ?_
      rintro e w1 ⟨p1, n1, c1, rfl, hO, hn1, hg1⟩
      go_wp2_with fail
      refine (refMul_n (hB'.keep hg1) hO.isN (by omega) (by omega)).mono ?_
      rintro e w2 ⟨p2, n2, c2, rfl, hM, hn2, hg2⟩
      go_wp2_with fail
      refine (refCmp_n hM.isN ((hR'.keep hg1).keep hg2)).mono ?_
      have hgw := grown_trans hgr (grown_trans hg1 hg2)
      by_cases hle : B * mid ≤ R
      · have hc : cmpI ((B * mid : Nat) : Int) (R : Int) = -1 ∨ cmpI ((B * mid : Nat) : Int) (R : Int) = 0 := by
          rcases Nat.lt_or_ge (B * mid) R with h | h
          · exact .inl (cmpI_lt h)
          · right; rw [show B * mid = R by omega, cmpI_eq]
        have hmq := (HC.out mid).2 hle
        rcases hc with hc | hc <;> rw [hc] <;> clear hc hle
        all_goals
          rintro e w3 ⟨rfl, rfl⟩
          go_wp2_with fail
          exact ⟨⟨mid, hi, rfl, rfl, hmq, h2, h3, hgw⟩, by simp [intOf]; omega⟩
      · have hc : cmpI ((B * mid : Nat) : Int) (R : Int) = 1 := cmpI_gt (by omega)
        have hmq : ¬ mid ≤ Q := fun h => hle ((HC.out mid).1 h)
        rw [hc]
        clear hc hle
        rintro e w3 ⟨rfl, rfl⟩
        go_wp2_with fail
        exact ⟨⟨lo, mid1, rfl, rfl, h1, by have := HMM.out.2; omega, by omega, hgw⟩, by simp [intOf]; omega⟩
    · obtain rfl : lo = Q := by omega
      go_wp2_with fail
      go_ret
      exact ⟨rfl, hgr⟩

/-- a new slice of one number, of the call's own -/
theorem one_own (w : World) (base : Nat) (e : TypeId) (k : IntKind) (v : Int) (y : Nat) (hv : v = (y : Int)) (hb : base ≤ w.heap.size) : IOwn (w.alloc (.cells #[.int k v] e)) base e k (some ⟨w.heap.size, 0, none⟩) 1 1 [y] := by
  subst hv
  exact IOwn.made w base e k [y] hb (by simp)

theorem cons_isN {w : World} {p : Option Addr} {n c x : Nat} {xs : List Nat} (h : IRd w .u16 p (1 + n) c ([x] ++ xs)) (hx : x < 65536) (hd : Dg 65536 xs) : IsN w p (1 + n) c (x + 65536 * V 65536 xs) :=
  ⟨_, h, Dg.cons hx hd, rfl⟩

theorem refDivMod_e {w : World} {p q : Option Addr} {n c m d N : Nat} (hA : IsN w p n c N) (hB : IsN w q m d 0) (hn : n ≤ 300000) (hm : m ≤ 300000) :
    Calls Tryd.prog 13 #[.slice p n c, .slice q m d] w fun e w' => e = .returned (.tuple #[.slice none 0 0, .slice none 0 0, .int .i64 3]) ∧ w.grownBy w' none := by
  go_enter Tryd.func13, Tryd.ntmps13
  go_wp2_with fail
  refine (refNorm_n hA (by omega)).mono ?_
  rintro e w1 ⟨p1, n1, c1, rfl, hA1, hn1, hg1⟩
  go_wp2_with fail
  refine (refNorm_n (hB.keep hg1) (by omega)).mono ?_
  rintro e w2 ⟨p2, n2, c2, rfl, hB2, hn2, hg2⟩
  have hz : n2 = 0 := by rw [← hB2.len]; rfl
  subst hz
  go_wp2_with fail
  go_ret3
  exact ⟨rfl, grown_trans hg1 hg2⟩

set_option maxHeartbeats 2000000 in
theorem refDivMod_n {w : World} {p q : Option Addr} {n c m d N M : Nat} (hA : IsN w p n c N) (hB : IsN w q m d M) (hn : n ≤ 300000) (hm : m ≤ 300000) (hpos : 0 < M) :
    Calls Tryd.prog 13 #[.slice p n c, .slice q m d] w fun e w' => ∃ (p1 : Option Addr) (n1 c1 : Nat) (p2 : Option Addr) (n2 c2 : Nat), e = .returned (.tuple #[.slice p1 n1 c1, .slice p2 n2 c2, .int .i64 0]) ∧
      IsC w' p1 n1 c1 (N / M) ∧ IsC w' p2 n2 c2 (N % M) ∧ n1 ≤ n ∧ n2 ≤ n ∧ w.grownBy w' none := by
  have HNL := hid hA.lt
  have HML := hid hB.lt
  go_enter Tryd.func13, Tryd.ntmps13
  go_wp2_with fail
  refine (refNorm_n hA (by omega)).mono ?_
  rintro e w1 ⟨p1, n1, c1, rfl, hA1, hn1, hg1⟩
  go_wp2_with fail
  refine (refNorm_n (hB.keep hg1) (by omega)).mono ?_
  rintro e w2 ⟨p2, n2, c2, rfl, hB2, hn2, hg2⟩
  replace hA1 := hA1.keep hg2
  have hgw := grown_trans hg1 hg2
  have hn20 : n2 ≠ 0 := by
    intro h0
    have := hB2.isN.lt
    rw [h0] at this; simp at this; omega
  have e0 : (((n2 : Int) == 0) = false) := beq_eq_false_iff_ne.2 (by omega)
  clear hg1 hg2 hA hB
  by_cases h4 : n1 ≤ 4 ∧ n2 ≤ 4
  · obtain ⟨h41, h42⟩ := h4
    have h41' : (n1 : Int) ≤ 4 := by omega
    have h42' : (n2 : Int) ≤ 4 := by omega
    have hNb : N < W64 := by rw [W64_eq]; exact Nat.lt_of_lt_of_le hA1.isN.lt (Nat.pow_le_pow_right (by omega) h41)
    have hMb : M < W64 := by rw [W64_eq]; exact Nat.lt_of_lt_of_le hB2.isN.lt (Nat.pow_le_pow_right (by omega) h42)
    have HS1 := fun W (h : IsC W p1 n1 c1 N) => refShort_any p1 n1 c1 _ W h (Can_dg (by omega) N).1 h41
    have HS2 := fun W (h : IsC W p2 n2 c2 M) => refShort_any p2 n2 c2 _ W h (Can_dg (by omega) M).1 h42
    simp only [V_dg (show 1 < 65536 by omega)] at HS1 HS2
    have HS1' := hid HS1
    have HS2' := hid HS2
    have hqb : N / M < W64 := Nat.lt_of_le_of_lt (Nat.div_le_self _ _) hNb
    have hrb : N % M < W64 := Nat.lt_of_le_of_lt (Nat.mod_le _ _) hNb
    obtain ⟨Q, hQ⟩ : ∃ Q, Q = N / M := ⟨_, rfl⟩
    obtain ⟨R, hR⟩ : ∃ R, R = N % M := ⟨_, rfl⟩
    have eq1 : IntKind.u64.wrap ((N : Int) / (M : Int)) = (Q : Int) := by rw [hQ, ← Int.natCast_ediv]; exact wrap_in _ hqb
    have eq2 : (N : Int) / (M : Int) = (Q : Int) := by rw [hQ]; simp
    have eq3 : (N : Int) % (M : Int) = (R : Int) := by rw [hR]; simp
    have eq4 : (N : Int).tmod (M : Int) = (R : Int) := by rw [hR]; rfl
    rw [← hQ] at hqb
    rw [← hR] at hrb
    have HQR := hid (And.intro hQ hR)
    have eq5 : IntKind.u64.wrap (Q : Int) = (Q : Int) := wrap_in _ hqb
    have eq6 : IntKind.u64.wrap (R : Int) = (R : Int) := wrap_in _ hrb
    have hQN : Q ≤ N := by rw [hQ]; exact Nat.div_le_self _ _
    have hRN : R ≤ N := by rw [hR]; exact Nat.mod_le _ _
    have HQN := hid (And.intro hQN hRN)
    have hM1 : (1 : Int) ≤ (M : Int) := by omega
    have hN0 : (0 : Int) ≤ (N : Int) := by omega
    clear hQ hR HS1 HS2 hQN hRN
    go_wp2_with fail
    refine (HS1'.out _ hA1).mono ?_
    rintro e w' ⟨rfl, rfl⟩
    go_wp2_with fail
    refine (HS2'.out _ hB2).mono ?_
    rintro e w' ⟨rfl, rfl⟩
    go_wp2_with fail
    refine (refOf_c Q hqb _).mono ?_
    rintro e w3 ⟨p3, n3, c3, rfl, hq3, hn3, hg3⟩
    replace hA1 := hA1.keep hg3
    replace hB2 := hB2.keep hg3
    go_wp2_with fail
    refine (HS1'.out _ hA1).mono ?_
    rintro e w' ⟨rfl, rfl⟩
    go_wp2_with fail
    refine (HS2'.out _ hB2).mono ?_
    rintro e w' ⟨rfl, rfl⟩
    go_wp2_with fail
    refine (refOf_c R hrb _).mono ?_
    rintro e w4 ⟨p4, n4, c4, rfl, hq4, hn4, hg4⟩
    go_wp2_with fail
    go_ret3
    exact ⟨p3, n3, c3, p4, n4, c4, rfl, (hq3.keep hg4).congr HQR.out.1, hq4.congr HQR.out.2, hq3.len_le (Nat.lt_of_le_of_lt HQN.out.1 HNL.out), hq4.len_le (Nat.lt_of_le_of_lt HQN.out.2 HNL.out), grown_trans hgw (grown_trans hg3 hg4)⟩
  · have hguard : (¬ ((n1 : Int) ≤ 4)) ∨ ((n1 : Int) ≤ 4 ∧ ¬ ((n2 : Int) ≤ 4)) := by omega
    clear h4
    have hAc := hA1
    obtain ⟨us, hus⟩ : ∃ us, us = dg 65536 N := ⟨_, rfl⟩
    have hcx : Nm.Can 65536 us := by rw [hus]; exact Can_dg (by omega) N
    have hVu : V 65536 us = N := by rw [hus]; exact V_dg (by omega) N
    have ht : IRd w2 .u16 p1 n1 c1 us := by rw [hus]; exact hA1
    have hul : us.length = n1 := ht.len
    have hcap := ht.cap
    have hmax := ht.max
    have HVU := hid hVu
    have HUL := hid hul
    clear hus hAc hVu hul
    have Hstart : Hid (V 65536 (us.drop n1) = 0) := hid (by rw [List.drop_of_length_le (by rw [HUL.out]; exact Nat.le_refl _)]; rfl)
    rcases hguard with hg | ⟨hg, hg'⟩
    all_goals
      go_wp2_with fail
      go_loopw [7, 8, 9] (fun s7 s8 s9 wr => ∃ (k : Nat) (pq : Option Addr) (nq cq : Nat) (qs : List Nat) (pr : Option Addr) (nr cr : Nat), k ≤ n1 ∧ s9 = .int .i64 ((k : Int) - 1) ∧ s7 = .slice pq nq cq ∧ s8 = .slice pr nr cr ∧ nq + k = n1 ∧ IRd wr .u16 pq nq cq qs ∧
          IsC wr pr nr cr (V 65536 (us.drop k) % M) ∧ w2.grownBy wr none ∧ Hid (Dg 65536 qs ∧ V 65536 qs = V 65536 (us.drop k) / M)) (fun _ _ s9 _ => (intOf s9 + 1).toNat)
      case atStart => exact ⟨n1, none, 0, 0, [], none, 0, 0, Nat.le_refl _, rfl, rfl, rfl, by omega, IRd.nil _ _, (IsC.nil _).congr (by rw [Hstart.out]; simp), grown_refl _ _, hid ⟨Dg.nil, by rw [Hstart.out]; simp⟩⟩
      case round =>
        obtain ⟨k, pq, nq, cq, qs, pr, nr, cr, hk, rfl, rfl, rfl, hnk, hq, hr, hgr, HC⟩ := hrel
        by_cases h0 : 0 < k
        · obtain ⟨i, rfl⟩ : ∃ i, k = i + 1 := ⟨k - 1, by omega⟩
          have hil : i < us.length := by rw [HUL.out]; omega
          obtain ⟨b, o, rfl, hc1⟩ := ht.cel i hil
          have hc2 := hgr.cell hc1 (by simp)
          obtain ⟨x, hx⟩ : ∃ x, x = us[i] := ⟨_, rfl⟩
          rw [← hx] at hc2
          have hxb : x < 65536 := by rw [hx]; exact hcx.1.get i hil
          have hdk := V_drop_succ (B := 65536) us i hil
          rw [← hx] at hdk
          have hdd := div_down (W := 65536) (x := M) (y := x) (v := V 65536 (us.drop (i + 1))) (Q := V 65536 (us.drop (i + 1)) / M) hpos rfl
          have hrM : V 65536 (us.drop (i + 1)) % M < M := Nat.mod_lt _ hpos
          obtain ⟨rr, hrr⟩ : ∃ rr, rr = V 65536 (us.drop (i + 1)) % M := ⟨_, rfl⟩
          rw [← hrr] at hr hdd hrM
          have hnr : nr ≤ m := hr.len_le (Nat.lt_trans hrM HML.out)
          have hR' : x + 65536 * rr < 65536 * M := by
            have := Nat.mul_le_mul_left 65536 (show rr + 1 ≤ M from hrM)
            omega
          have HDD := hid (And.intro hdd hdk)
          have HRR := hid hrr
          have HR' := hid hR'
          have hBr := hB2.keep hgr
          have hi0 : (0 : Int) ≤ (i : Int) := by omega
          have hi1 : (i : Int) < (n1 : Int) := by omega
          have hrd : IRd wr .u16 pr nr cr (dg 65536 rr) := hr
          have hnrb : nr ≤ 300000 := by omega
          have hnqb : nq ≤ 300000 := by omega
          clear hc1 hx hdk hdd hrM hrr hR'
          go_wp2_with (with_reducible refine wl_append _ rfl (.tmp 49) (.tmp 50) 23 rfl 37 .u16 2 Tryd.underlying23 info16 wr.heap.size _ _ _ [x] rfl (one_own wr wr.heap.size _ _ _ x rfl (Nat.le_refl _)) _ nr cr _ rfl (IRd.keep hrd (World.grownBy_alloc _ _ none)) (by omega) (by omega) wr (World.grownBy_alloc _ _ none) (Nat.le_refl _) (by simp) ?_; intro p3 c3 w3 ho3 hg3)
          have hN3 : IsN w3 p3 (1 + nr) c3 (x + 65536 * rr) := by
            have := cons_isN ho3.rd hxb (Can_dg (by omega) rr).1
            rwa [V_dg (by omega)] at this
          refine (refNorm_n hN3 (by omega)).mono ?_
          rintro e w4 ⟨p4, n4, c4, rfl, hR4, hn4, hg4⟩
          have hg34 := grown_trans hg3 hg4
          replace hBr := hBr.keep hg34
          replace hq := hq.keep hg34
          replace hgr := grown_trans hgr hg34
          clear hN3 ho3 hg3 hg4 hg34 hr hrd hc2
          obtain ⟨R4, hR4'⟩ : ∃ R4, R4 = x + 65536 * rr := ⟨_, rfl⟩
          obtain ⟨dd, hdd⟩ : ∃ dd, dd = R4 / M := ⟨_, rfl⟩
          have hRlt := HR'.out
          rw [← hR4'] at hR4 hRlt
          have HDG := hid (refDigit_n hR4.isN hBr.isN (by omega) hpos hRlt)
          rw [← hdd] at HDG
          have hddb : dd < 65536 := by rw [hdd]; exact Nat.div_lt_of_lt_mul (by rw [Nat.mul_comm]; exact hRlt)
          have eD : IntKind.u16.wrap (dd : Int) = (dd : Int) := by rw [IntKind.wrap_u16]; omega
          have hsub : M * dd ≤ R4 := by rw [hdd]; exact Nat.mul_div_le _ _
          have hmod : R4 - M * dd = R4 % M := by
            have := Nat.div_add_mod R4 M
            rw [← hdd] at this; omega
          have HX := hid (And.intro hR4' (And.intro hdd (And.intro hsub hmod)))
          clear hR4' hdd hsub hmod hRlt
          go_wp2_with fail
          refine HDG.out.mono ?_
          rintro e w5 ⟨rfl, hg5⟩
          replace hBr := hBr.keep hg5
          replace hq := hq.keep hg5
          replace hR4 := hR4.keep hg5
          replace hgr := grown_trans hgr hg5
          clear HDG hg5
          go_wp2_with (with_reducible refine wl_append _ rfl (.tmp 58) (.tmp 59) 23 rfl 37 .u16 2 Tryd.underlying23 info16 w5.heap.size _ _ _ [dd] rfl (one_own w5 w5.heap.size _ _ _ dd (by first | rfl | exact eD) (Nat.le_refl _)) _ nq cq _ rfl (IRd.keep hq (World.grownBy_alloc _ _ none)) (by omega) (by omega) w5 (World.grownBy_alloc _ _ none) (Nat.le_refl _) (by simp) ?_; intro p6 c6 w6 ho6 hg6)
          replace hBr := hBr.keep hg6
          replace hR4 := hR4.keep hg6
          replace hgr := grown_trans hgr hg6
          have hq6 := ho6.rd
          clear ho6 hg6 hq
          refine (refOf_c dd (by unfold W64; omega) _).mono ?_
          rintro e w7 ⟨p7, n7, c7, rfl, hO, hn7, hg7⟩
          go_wp2_with fail
          refine (refMul_n (hBr.keep hg7).isN hO.isN (by omega) (by omega)).mono ?_
          rintro e w8 ⟨p8, n8, c8, rfl, hM8, hn8, hg8⟩
          have hg78 := grown_trans hg7 hg8
          replace hR4 := hR4.keep hg78
          replace hq6 := hq6.keep hg78
          replace hgr := grown_trans hgr hg78
          go_wp2_with fail
          refine (refSub_n hR4.isN hM8.isN (by omega) HX.out.2.2.1).mono ?_
          rintro e w9 ⟨p9, n9, c9, rfl, hS9, hn9, hg9⟩
          replace hq6 := hq6.keep hg9
          replace hgr := grown_trans hgr hg9
          go_wp2_with fail
          have hx1 := HX.out
          have hx2 := HDD.out
          have e5 : rr * 65536 + x = R4 := by rw [hx1.1]; omega
          rw [e5] at hx2
          refine ⟨⟨i, p6, 1 + nq, c6, [dd] ++ qs, p9, n9, c9, by omega, by congr 1, rfl, rfl, by omega, hq6, hS9.congr ?_, hgr, hid ⟨Dg.cons hddb HC.out.1, ?_⟩⟩, by simp [intOf]⟩
          · rw [hx1.2.2.2, hx2.1.2, hx2.2]
          · rw [List.singleton_append, V_cons, HC.out.2, hx1.2.1, hx2.1.1, hx2.2]
        · obtain rfl : k = 0 := by omega
          have hr' := hr
          rw [List.drop_zero, HVU.out] at hr'
          have hqv := HC.out.2
          rw [List.drop_zero, HVU.out] at hqv
          have hqN : IsN wr pq nq cq (N / M) := ⟨qs, hq, HC.out.1, hqv⟩
          have hrn : nr ≤ n := hr'.len_le (Nat.lt_of_le_of_lt (Nat.mod_le _ _) HNL.out)
          clear hqv hr
          go_wp2_with fail
          refine (refNorm_n hqN (by omega)).mono ?_
          rintro e w4 ⟨p4, n4, c4, rfl, hq4, hn4, hg4⟩
          go_wp2_with fail
          go_ret3
          exact ⟨p4, n4, c4, pr, nr, cr, rfl, hq4, hr'.keep hg4, by omega, hrn, grown_trans hgw (grown_trans hgr hg4)⟩
end Go.Proofs.YtnfmjlomiihcnaaDoor

/-
  Plain arithmetic of the greatest common divisor by halving and subtraction. No program is mentioned here.
-/
set_option linter.unusedVariables false
namespace Nm
theorem gcd_pow_right {x y k : Nat} (hx : x % 2 = 1) : Nat.gcd x (2 ^ k * y) = Nat.gcd x y := by
  have hc : Nat.Coprime x (2 ^ k) := by
    apply Nat.Coprime.pow_right
    have h1 : Nat.gcd x 2 ∣ 2 := Nat.gcd_dvd_right _ _
    have h2 : Nat.gcd x 2 ∣ x := Nat.gcd_dvd_left _ _
    have h3 : Nat.gcd x 2 ≤ 2 := Nat.le_of_dvd (by omega) h1
    have h4 : 0 < Nat.gcd x 2 := Nat.gcd_pos_of_pos_right _ (by omega)
    have : Nat.gcd x 2 ≠ 2 := fun e => by rw [e] at h2; omega
    show Nat.gcd x 2 = 1
    omega
  rw [Nat.gcd_comm, Nat.gcd_comm x y]
  exact Nat.Coprime.gcd_mul_left_cancel y hc.symm

/-- the common divisor, once its powers of 2 are set apart -/
theorem gcd_split {X Y t a p : Nat} (hX : X = 2 ^ a * p) (hp : p % 2 = 1) (h1 : X % 2 ^ t = 0) (h2 : Y % 2 ^ t = 0) (h3 : X / 2 ^ t % 2 = 1 ∨ Y / 2 ^ t % 2 = 1) : Nat.gcd X Y = 2 ^ t * Nat.gcd p Y := by
  have e1 : X = 2 ^ t * (X / 2 ^ t) := (Nat.mul_div_cancel' (Nat.dvd_of_mod_eq_zero h1)).symm
  have e2 : Y = 2 ^ t * (Y / 2 ^ t) := (Nat.mul_div_cancel' (Nat.dvd_of_mod_eq_zero h2)).symm
  have hpt : 0 < 2 ^ t := Nat.pow_pos (by omega)
  generalize X / 2 ^ t = x at *
  generalize Y / 2 ^ t = y at *
  have gY : Nat.gcd p Y = Nat.gcd p y := by rw [e2, gcd_pow_right hp]
  rw [gY, e1, e2, Nat.gcd_mul_left]
  congr 1
  -- a is at least t
  have hta : t ≤ a := by
    refine Nat.le_of_not_lt fun hlt => ?_
    obtain ⟨d, rfl⟩ : ∃ d, t = a + (d + 1) := ⟨t - a - 1, by omega⟩
    rw [hX, Nat.pow_add, Nat.mul_assoc] at e1
    have := Nat.eq_of_mul_eq_mul_left (Nat.pow_pos (by omega)) e1
    rw [Nat.pow_succ, Nat.mul_assoc, Nat.mul_left_comm, Nat.mul_comm] at this
    omega
  obtain ⟨d, rfl⟩ : ∃ d, a = t + d := ⟨a - t, by omega⟩
  rw [hX, Nat.pow_add, Nat.mul_assoc] at e1
  have ex : 2 ^ d * p = x := Nat.eq_of_mul_eq_mul_left hpt e1
  rcases h3 with h3 | h3
  · rcases Nat.eq_zero_or_pos d with h0 | h0
    · subst h0; rw [← ex]; simp
    · obtain ⟨f, rfl⟩ : ∃ f, d = f + 1 := ⟨d - 1, by omega⟩
      rw [← ex, Nat.pow_succ, Nat.mul_comm (2 ^ f), Nat.mul_assoc] at h3
      omega
  · rw [← ex, Nat.gcd_comm, gcd_pow_right h3, Nat.gcd_comm]

/-- the trailing zeros of a join are common to both -/
theorem or_zeros {X Y t m : Nat} (h : X ||| Y = 2 ^ t * (2 * m + 1)) : X % 2 ^ t = 0 ∧ Y % 2 ^ t = 0 ∧ (X / 2 ^ t % 2 = 1 ∨ Y / 2 ^ t % 2 = 1) := by
  have h1 : (X ||| Y) % 2 ^ t = 0 := by rw [h]; exact Nat.mul_mod_right _ _
  have h2 : (X ||| Y) / 2 ^ t = 2 * m + 1 := by rw [h]; exact Nat.mul_div_cancel_left _ (Nat.pow_pos (by omega))
  rw [Nat.or_mod_two_pow] at h1
  have hz : ∀ a b : Nat, a ||| b = 0 → a = 0 ∧ b = 0 := fun a b e => by
    have hl : a ≤ a ||| b := Nat.left_le_or
    have hr : b ≤ a ||| b := Nat.right_le_or
    omega
  obtain ⟨k1, k2⟩ := hz _ _ h1
  refine ⟨k1, k2, ?_⟩
  have h3 : ((X ||| Y) / 2 ^ t) % 2 = 1 := by omega
  have h4 : (X ||| Y).testBit t = true := by rw [Nat.testBit_eq_decide_div_mod_eq]; simpa using h3
  rw [Nat.testBit_or] at h4
  rcases Bool.or_eq_true_iff.1 h4 with h5 | h5
  · left; rw [Nat.testBit_eq_decide_div_mod_eq] at h5; simpa using h5
  · right; rw [Nat.testBit_eq_decide_div_mod_eq] at h5; simpa using h5

/-- one round: the greater odd number less the smaller one -/
theorem gcd_round {x y G k z : Nat} (hx : x % 2 = 1) (hG : Nat.gcd x y = G) (hy : y = 2 ^ k * z) (hz : z % 2 = 1) :
    (x ≤ z → Nat.gcd x (z - x) = G) ∧ (z < x → Nat.gcd z (x - z) = G) := by
  have h1 : Nat.gcd x z = G := by rw [← hG, hy, gcd_pow_right hx]
  constructor
  · intro h; rw [Nat.gcd_sub_self_right h]; exact h1
  · intro h; rw [Nat.gcd_sub_self_right (by omega), Nat.gcd_comm]; exact h1
end Nm
