/-
  Contract of natural.DivMod: the quotient and the rest of any numbers, or the error.
-/
import Derived.Test.YtiaonbofkgkdhaaGreatDoorDivS
import Derived.Test.YtiaonbofkgkdhaaGreatDoorDivide
import Derived.Test.YtiaonbofkgkdhaaGreatDoorVal
set_option linter.unusedVariables false
set_option linter.unusedSimpArgs false
namespace Go.Proofs.YtiaonbofkgkdhaaGreatDoor
open Go.RowKit Nm

theorem IsC.len_le {w : World} {p : Option Addr} {n c N k : Nat} (h : IsC w p n c N) (hN : N < 65536 ^ k) : n ≤ k := by rw [← h.len]; exact dg_length_le (by omega) hN

theorem natDivMod_zero (a b : Option Addr) (n m c d : Nat) (xs ys : List Nat) (w : World) (h : IRd w .u16 a n c xs) (k : IRd w .u16 b m d ys) (hy : Dg 65536 ys) (h0 : V 65536 ys = 0) :
    Calls Tryz.prog 74 #[.slice a n c, .slice b m d] w fun e w' => e = .returned (.tuple #[.slice none 0 0, .slice none 0 0, .int .i64 3]) ∧ w = w' := by
  have R1 := hid (trim16 a n c xs w h)
  have R2 := hid (trim16 b m d ys w k)
  have hl : (trimR ys).length = 0 := by
    rw [trimR_dg (by omega) hy, h0]; rfl
  rw [hl] at R2
  clear hl h0
  generalize (trimR xs).length = lx at *
  go_enter Tryz.func74, Tryz.ntmps74
  go_wp2_with (first
    | (go_at_call 79; (with_reducible refine (R1.out).mono ?_); rintro e w' ⟨rfl, rfl⟩)
    | (go_at_call 79; (with_reducible refine (R2.out).mono ?_); rintro e w' ⟨rfl, rfl⟩))
  go_ret3
  exact ⟨rfl, rfl⟩

theorem len_words {ys : List Nat} (h : Nm.Can 65536 ys) (hl : 4 < ys.length) (vs : List Nat) (hv : Dg W64 vs) (m : Nat) (hm : m + 2 = (ys.length + 3) / 4) (lv : vs.length = m + 2) (e : V W64 vs = V 65536 ys) :
    ∀ t, vs[m + 1]? = some t → 0 < t := by
  intro t ht
  rcases Nat.eq_zero_or_pos t with h0 | h0
  · exfalso
    subst h0
    have hvl : m + 1 < vs.length := by omega
    rw [List.getElem?_eq_getElem hvl] at ht
    have a1 := V_take_drop (B := W64) vs (m + 1) (by omega)
    have a2 := V_drop_succ (B := W64) vs (m + 1) hvl
    rw [show vs.drop (m + 1 + 1) = [] from List.drop_of_length_le (by omega), Option.some.inj ht] at a2
    simp only [V_nil, Nat.mul_zero, Nat.add_zero] at a2
    rw [a2, Nat.mul_zero, Nat.add_zero] at a1
    have a3 := (hv.take (m + 1)).lt
    rw [List.length_take, Nat.min_eq_left (by omega), ← a1, e, W64_eq, ← Nat.pow_mul] at a3
    have a4 := h.low (by omega) (by intro e; subst e; simp at hl)
    have a5 : 65536 ^ (4 * (m + 1)) ≤ 65536 ^ (ys.length - 1) := Nat.pow_le_pow_right (by omega) (by omega)
    omega
  · exact h0

set_option maxHeartbeats 2000000 in
theorem natDivMod_any (a b : Option Addr) (n m c d : Nat) (xs ys : List Nat) (w : World) (h : IRd w .u16 a n c xs) (k : IRd w .u16 b m d ys) (hx : Dg 65536 xs) (hy : Dg 65536 ys) (hn : n ≤ 800000000) (hm : m ≤ 800000000) (hpos : 0 < V 65536 ys) :
    Calls Tryz.prog 74 #[.slice a n c, .slice b m d] w (DmPost w (V 65536 xs) (V 65536 ys)) := by
  by_cases hsm : (trimR xs).length ≤ 4 ∧ (trimR ys).length ≤ (trimR xs).length
  · exact natDivMod_small a b n m c d xs ys w h k hx hy hsm.1 hsm.2 hpos
  have ht := h.take (trimR xs).length (by rw [← h.len]; exact trimR_length_le xs)
  have kt := k.take (trimR ys).length (by rw [← k.len]; exact trimR_length_le ys)
  rw [← trimR_eq_take] at ht kt
  have hcx := Can_trimR hx
  have hcy := Can_trimR hy
  have hvx := V_trimR (B := 65536) xs
  have hvy := V_trimR (B := 65536) ys
  have hnl : (trimR xs).length ≤ n := by rw [← h.len]; exact trimR_length_le xs
  have hml : (trimR ys).length ≤ m := by rw [← k.len]; exact trimR_length_le ys
  have R1 := hid (trim16 a n c xs w h)
  have R2 := hid (trim16 b m d ys w k)
  have hcap := ht.cap
  have kcap := kt.cap
  have hmax := ht.max
  have kmax := kt.max
  rw [← hvy] at hpos ⊢
  rw [← hvx]
  generalize trimR xs = us at *
  generalize trimR ys = vs at *
  clear hvx hvy h k
  have hv0 : 0 < vs.length := by
    rcases Nat.eq_zero_or_pos vs.length with h0 | h0
    · rw [List.eq_nil_of_length_eq_zero h0] at hpos; simp at hpos
    · exact h0
  have e1 : (((vs.length : Int) == 0) = false) := beq_eq_false_iff_ne.2 (by omega)
  by_cases hlt : us.length < vs.length
  · have e2 : ((us.length : Int) < (vs.length : Int)) := by omega
    have hval := Nm.Can.lt_of_length (B := 65536) (by omega) hcx.1 hcy hlt
    have hq : V 65536 us / V 65536 vs = 0 := Nat.div_eq_of_lt hval
    have hr : V 65536 us % V 65536 vs = V 65536 us := Nat.mod_eq_of_lt hval
    have HU := hid (eq_dg (by omega) hcx)
    have HPOST : Hid (∀ p cc W, IRd W .u16 p us.length cc us → w.grownBy W none → DmPost w (V 65536 us) (V 65536 vs) (.returned (.tuple #[.slice none 0 0, .slice p us.length cc, .int .i64 0])) W) := hid (fun p cc W h1 h2 => by
      have hl : (dg 65536 (V 65536 us)).length = us.length := by rw [← HU.out]
      refine ⟨none, p, 0, cc, ?_, ?_, ?_, h2⟩
      · rw [hq, hr, hl]; rfl
      · rw [hq]; exact IRd.nil _ _
      · rw [hr, ← HU.out]; exact h1)
    clear hval hq hr
    go_enter Tryz.func74, Tryz.ntmps74
    go_wp2_with (first
      | (go_at_call 79; (with_reducible refine (R1.out).mono ?_); rintro e w' ⟨rfl, rfl⟩)
      | (go_at_call 79; (with_reducible refine (R2.out).mono ?_); rintro e w' ⟨rfl, rfl⟩)
      | (go_at_call 125; refine (clone_any _ _ _ us _ ht (by omega)).mono ?_; rintro e w2 ⟨rfl, hr2, hg2⟩))
    go_ret3
    exact HPOST.out _ _ _ (hr2.rd0 (by omega)) hg2
  · have e2 : ¬ ((us.length : Int) < (vs.length : Int)) := by omega
    have e3 : ¬ ((us.length : Int) ≤ 4) := by omega
    by_cases h4 : vs.length ≤ 4
    · have e4 : ((vs.length : Int) ≤ 4) := by omega
      have hyb : V 65536 vs < W64 := by rw [W64_eq]; exact V_word hcy.1 4 h4
      have HP := hid (pack_any a us.length c us w ht hcx.1 (by omega))
      go_enter Tryz.func74, Tryz.ntmps74
      go_wp2_with (first
        | (go_at_call 79; (with_reducible refine (R1.out).mono ?_); rintro e w' ⟨rfl, rfl⟩)
        | (go_at_call 79; (with_reducible refine (R2.out).mono ?_); rintro e w' ⟨rfl, rfl⟩))
      refine HP.out.mono ?_
      rintro e w1 ⟨L, zs, rfl, hr1, HZ, hg1⟩
      have HW := hid (word_any b vs.length d vs w1 (kt.keep hg1) hcy.1 h4)
      have hLz : zs.length = L := HZ.out.2.1
      have hLb : L ≤ 200000001 := by have := HZ.out.1; omega
      have HD := hid (divW_any w.heap.size L L zs (V 65536 vs) w1 hr1 (by omega) (Nat.le_refl _) (by omega) (by omega) HZ.out.2.2.2 hpos hyb)
      have HLz := hid hLz
      clear hLz
      generalize hyv : V 65536 vs = Y at *
      have HY := hid hyv
      clear hyv
      go_wp2_with (first
        | (go_at_call 81; (with_reducible refine (HW.out).mono ?_); rintro e w' ⟨rfl, rfl⟩)
        | (go_at_call 83; (with_reducible refine (HD.out).mono ?_); rintro e w2 ⟨cu, rfl, hr2, hg2, HC⟩))
      have hcl : cu.length = L := by rw [HC.out.1, HLz.out]
      have hrd := hr2.rd0 (by omega)
      rw [hcl] at hrd
      have hq0 : V W64 cu = V 65536 us / Y := by
        have h1 := HC.out.2.2.1
        rw [List.take_of_length_le (by omega), List.take_of_length_le (by rw [HLz.out]; exact Nat.le_refl _), HZ.out.2.2.1] at h1
        exact h1
      have hr0 : V W64 (List.take L zs) = V 65536 us := by rw [List.take_of_length_le (by rw [HLz.out]; exact Nat.le_refl _), HZ.out.2.2.1]
      have hrb : V 65536 us % Y < W64 := Nat.lt_trans (Nat.mod_lt _ hpos) hyb
      have HU := hid (unpack_any _ L L cu _ hrd HC.out.2.1 (by omega))
      rw [hq0] at HU
      rw [hr0]
      have hgw : w.grownBy w2 none := grown_new hg1 hg2 (fun g' e' => by cases e'; exact Nat.le_refl _)
      clear hcl hrd hq0 hr0 hg1 hg2 hr1 hr2 HD HW HP
      generalize hqq : V 65536 us / Y = QQ at *
      generalize hrr : V 65536 us % Y = RR at *
      have HQQ := hid hqq
      have HRR := hid hrr
      clear hqq hrr
      have HPOST : Hid (∀ p1 c1 p2 c2 W, IRd W .u16 p1 (dg 65536 QQ).length c1 (dg 65536 QQ) → IRd W .u16 p2 (dg 65536 RR).length c2 (dg 65536 RR) → w.grownBy W none → DmPost w (V 65536 us) Y (.returned (.tuple #[.slice p1 (dg 65536 QQ).length c1, .slice p2 (dg 65536 RR).length c2, .int .i64 0])) W) := hid (fun p1 c1 p2 c2 W g1 g2 g3 => by
        refine ⟨p1, p2, c1, c2, ?_, ?_, ?_, g3⟩
        · rw [HQQ.out, HRR.out]
        · rw [HQQ.out]; exact g1
        · rw [HRR.out]; exact g2)
      refine HU.out.mono ?_
      rintro e w3 ⟨p1, c1, rfl, hr3, hg3⟩
      have HZI : Hid (((V 65536 us : Nat) : Int) % (Y : Int) = (RR : Int)) := hid (by rw [← HRR.out]; simp)
      go_wp2_with fail
      first
        | with_reducible refine (of_at _ RR HZI.out hrb _).mono ?_
        | with_reducible refine (of_at _ RR rfl hrb _).mono ?_
      rintro e w4 ⟨p2, c2, rfl, hr4, hg4⟩
      go_wp2_with fail
      go_ret3
      exact HPOST.out _ _ _ _ _ (hr3.keep hg4) hr4 (grown_trans hgw (grown_trans hg3 hg4))
    · have e4 : ¬ ((vs.length : Int) ≤ 4) := by omega
      have HP := hid (pack_any a us.length c us w ht hcx.1 (by omega))
      go_enter Tryz.func74, Tryz.ntmps74
      go_wp2_with (first
        | (go_at_call 79; (with_reducible refine (R1.out).mono ?_); rintro e w' ⟨rfl, rfl⟩)
        | (go_at_call 79; (with_reducible refine (R2.out).mono ?_); rintro e w' ⟨rfl, rfl⟩))
      refine HP.out.mono ?_
      rintro e w1 ⟨L, zs, rfl, hr1, HZ, hg1⟩
      go_wp2_with fail
      refine (pack_any b vs.length d vs w1 (kt.keep hg1) hcy.1 (by omega)).mono ?_
      rintro e w2 ⟨M', ws, rfl, hr2, HWS, hg2⟩
      obtain ⟨M, hM⟩ : ∃ M, M' = M + 2 := ⟨M' - 2, by have := HWS.out.1; omega⟩
      subst hM
      have hlz := HZ.out.2.1
      have hlw := HWS.out.2.1
      have hrd1 := (hr1.kept hg2 (by simp)).rd0 (by have := HZ.out.1; omega)
      have hrd2 := hr2.rd0 (by have := HWS.out.1; omega)
      rw [hlz] at hrd1
      rw [hlw] at hrd2
      have HDV := hid (divide_any _ _ L M L (M + 2) zs ws w2 hrd1 hrd2 HZ.out.2.2.2 HWS.out.2.2.2 (by have := HZ.out.1; have := HWS.out.1; omega) (by have := HZ.out.1; omega) (by have := HWS.out.1; omega)
        (len_words hcy (by omega) ws HWS.out.2.2.2 M HWS.out.1 hlw HWS.out.2.2.1))
      have hgw := grown_trans hg1 hg2
      have hVz := HZ.out.2.2.1
      have hVw := HWS.out.2.2.1
      rw [hVz, hVw] at HDV
      clear hlz hlw hrd1 hrd2 hr1 hr2 hg1 hg2 hVz hVw HP
      go_wp2_with fail
      refine HDV.out.mono ?_
      rintro e w3 ⟨a1, a2, n1, n2, qs, rs, rfl, hq3, hr3, hn1, hn2, HF, hg3⟩
      generalize hqq : V 65536 us / V 65536 vs = QQ at *
      generalize hrr : V 65536 us % V 65536 vs = RR at *
      have HQQ := hid hqq
      have HRR := hid hrr
      clear hqq hrr
      have HPOST : Hid (∀ p1 c1 p2 c2 W, IRd W .u16 p1 (dg 65536 QQ).length c1 (dg 65536 QQ) → IRd W .u16 p2 (dg 65536 RR).length c2 (dg 65536 RR) → w.grownBy W none → DmPost w (V 65536 us) (V 65536 vs) (.returned (.tuple #[.slice p1 (dg 65536 QQ).length c1, .slice p2 (dg 65536 RR).length c2, .int .i64 0])) W) := hid (fun p1 c1 p2 c2 W g1 g2 g3 => by
        refine ⟨p1, p2, c1, c2, ?_, ?_, ?_, g3⟩
        · rw [HQQ.out, HRR.out]
        · rw [HQQ.out]; exact g1
        · rw [HRR.out]; exact g2)
      have hU1 := unpack_any _ n1 n1 qs _ hq3 HF.out.1 (by omega)
      rw [HF.out.2.2.1] at hU1
      have HU1 := hid hU1
      have hU2 := fun w4 (hg4 : w3.grownBy w4 none) => unpack_any _ n2 n2 rs _ (hr3.keep hg4) HF.out.2.1 (by omega)
      rw [HF.out.2.2.2] at hU2
      have HU2 := hid hU2
      clear hU1 hU2 HDV
      go_wp2_with fail
      refine HU1.out.mono ?_
      rintro e w4 ⟨p1, c1, rfl, hr4, hg4⟩
      go_wp2_with fail
      refine (HU2.out _ hg4).mono ?_
      rintro e w5 ⟨p2, c2, rfl, hr5, hg5⟩
      go_wp2_with fail
      go_ret3
      exact HPOST.out _ _ _ _ _ (hr4.keep hg5) hr5 (grown_trans hgw (grown_trans hg3 (grown_trans hg4 hg5)))

section
variable {w w' : World} {p q : Option Addr} {n c m d N M : Nat}
theorem natDivMod_n (hA : IsN w p n c N) (hB : IsN w q m d M) (hn : n ≤ 800000000) (hm : m ≤ 800000000) (hpos : 0 < M) :
    Calls Tryz.prog 74 #[.slice p n c, .slice q m d] w fun e w' => ∃ (p1 : Option Addr) (n1 c1 : Nat) (p2 : Option Addr) (n2 c2 : Nat), e = .returned (.tuple #[.slice p1 n1 c1, .slice p2 n2 c2, .int .i64 0]) ∧
      IsC w' p1 n1 c1 (N / M) ∧ IsC w' p2 n2 c2 (N % M) ∧ n1 ≤ n ∧ n2 ≤ n ∧ n2 ≤ m ∧ w.grownBy w' none := by
  have lA := hA.lt
  have lB := hB.lt
  obtain ⟨L, h1, h2, rfl⟩ := hA
  obtain ⟨K, k1, k2, rfl⟩ := hB
  refine (natDivMod_any p q n m c d L K w h1 k1 h2 k2 hn hm hpos).mono fun e w' ⟨a1, a2, c1, c2, he, g1, g2, hg⟩ => ⟨a1, _, c1, a2, _, c2, he, g1, g2, ?_, ?_, ?_, hg⟩
  · exact dg_length_le (by omega) (Nat.lt_of_le_of_lt (Nat.div_le_self _ _) lA)
  · exact dg_length_le (by omega) (Nat.lt_of_le_of_lt (Nat.mod_le _ _) lA)
  · exact dg_length_le (by omega) (Nat.lt_trans (Nat.mod_lt _ hpos) lB)

theorem natDivMod_e (hA : IsN w p n c N) (hB : IsN w q m d 0) :
    Calls Tryz.prog 74 #[.slice p n c, .slice q m d] w fun e w' => e = .returned (.tuple #[.slice none 0 0, .slice none 0 0, .int .i64 3]) ∧ w.grownBy w' none := by
  obtain ⟨L, h1, h2, _⟩ := hA
  obtain ⟨K, k1, k2, k3⟩ := hB
  exact (natDivMod_zero p q n m c d L K w h1 k1 k2 k3).mono fun e w' ⟨he, hw⟩ => ⟨he, hw ▸ grown_refl _ _⟩
end
end Go.Proofs.YtiaonbofkgkdhaaGreatDoor
