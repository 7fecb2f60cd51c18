/-
  Contract of natural.Sqrt: the whole root and what is left, for any number.
-/
import Derived.Test.YtkggoniecmlglaaDoorDivN
import Derived.Test.YtkggoniecmlglaaDoorShL
import Derived.Test.YtkggoniecmlglaaDoorRootA
set_option linter.unusedVariables false
set_option linter.unusedSimpArgs false
namespace Go.Proofs.YtkggoniecmlglaaDoor
open Go.RowKit Nm

theorem len_any (x : Nat) (hx : x < W64) (w : World) :
    Calls Tryd.prog 52 #[.int .u64 x] w fun e w' => ∃ l : Nat, l ≤ 64 ∧ e = .returned (.int .i64 l) ∧ Hid (l = Lib.bitLen x) ∧ w = w' := by
  go_enter Tryd.func52, Tryd.ntmps52
  go_wp2_with (go_at_call 73; refine (len64_any x hx _).mono ?_; rintro e w' ⟨l, hl, HL, rfl, rfl⟩)
  go_ret
  exact ⟨l, hl, rfl, HL, rfl⟩

/-- what Sqrt returns -/
def RtPost (w : World) (N n : Nat) (e : Ending) (w' : World) : Prop :=
  ∃ (R : Nat) (p1 : Option Addr) (n1 c1 : Nat) (p2 : Option Addr) (n2 c2 : Nat), e = .returned (.tuple #[.slice p1 n1 c1, .slice p2 n2 c2]) ∧ R * R ≤ N ∧ N < (R + 1) * (R + 1) ∧ IsC w' p1 n1 c1 R ∧ IsC w' p2 n2 c2 (N - R * R) ∧ n1 ≤ n + 1 ∧ n2 ≤ n ∧ w.grownBy w' none

set_option maxHeartbeats 2000000 in
theorem natSqrt_n {w : World} {p : Option Addr} {n c N : Nat} (hA : IsN w p n c N) (hn : n ≤ 100000) :
    Calls Tryd.prog 14 #[.slice p n c] w (RtPost w N n) := by
  have hNlt := hA.lt
  obtain ⟨L, h1, h2, rfl⟩ := hA
  have ht := h1.take (trimR L).length (by rw [← h1.len]; exact trimR_length_le L)
  rw [← trimR_eq_take] at ht
  have hcx := Can_trimR h2
  have hv := V_trimR (B := 65536) L
  have hl : (trimR L).length ≤ n := by rw [← h1.len]; exact trimR_length_le L
  have R1 := hid (trim16 p n c L w h1)
  rw [← hv] at hNlt ⊢
  generalize trimR L = us at *
  clear hv h1 h2
  have hU : IsN w p us.length c (V 65536 us) := ⟨us, ht, hcx.1, rfl⟩
  by_cases h0 : us.length = 0
  · have hus : us = [] := List.eq_nil_of_length_eq_zero h0
    rw [h0] at R1
    subst hus
    clear h0 hU
    go_enter Tryd.func14, Tryd.ntmps14
    go_wp2_with (go_at_call 42; (with_reducible refine (R1.out).mono ?_); rintro e w' ⟨rfl, rfl⟩)
    go_ret2
    exact ⟨0, none, 0, 0, none, 0, 0, rfl, by simp, by simp, IsC.nil _, IsC.nil _, by omega, by omega, grown_refl _ _⟩
  · have hNpos : 1 ≤ V 65536 us := hcx.pos (by omega) (by intro e; subst e; simp at h0)
    obtain ⟨m, hm⟩ : ∃ m, m = us.length := ⟨_, rfl⟩
    rw [← hm] at R1 hl h0 hU
    have hU0 := hU.lt
    have e0 : (((m : Int) == 0) = false) := beq_eq_false_iff_ne.2 (by omega)
    clear hm ht hcx
    generalize V 65536 us = N at *
    have HB := hid (natBits_n hU (by omega))
    have HNP := hid hNpos
    have HNL := hid hNlt
    clear hNlt hU0 hNpos
    go_enter Tryd.func14, Tryd.ntmps14
    go_wp2_with (first
      | (go_at_call 42; (with_reducible refine (R1.out).mono ?_); rintro e w' ⟨rfl, rfl⟩))
    refine HB.out.mono ?_
    rintro e w' ⟨b, hb, rfl, HBB, rfl⟩
    have hbits : 1 ≤ b ∧ 2 ^ (b - 1) ≤ N ∧ N < 2 ^ b := by
      rcases HBB.out with ⟨h1, _⟩ | h1
      · have := HNP.out; omega
      · exact h1
    obtain ⟨half, hh⟩ : ∃ half, half = (b - 1) / 2 := ⟨_, rfl⟩
    have hhi : ((b : Int) - 1) / 2 = (half : Int) := by omega
    have hhb : half ≤ 800000 := by omega
    have hlo : 2 ^ (2 * half) ≤ N := Nat.le_trans (Nat.pow_le_pow_right (by omega) (by omega)) hbits.2.1
    have hhi2 : N < 2 ^ (2 * half + 2) := Nat.lt_of_lt_of_le hbits.2.2 (Nat.pow_le_pow_right (by omega) (by omega))
    have HST := hid (RInv.start hlo hhi2)
    have HLO := hid hlo
    have hb0 : (0 : Int) ≤ (b : Int) - 1 := by omega
    clear hbits hh hlo hhi2 HBB
    go_wp2_with fail
    refine (of_at _ 1 rfl (by decide) _).mono ?_
    rintro e w1 ⟨po, co, rfl, hr1, hg1⟩
    have hone : IsC w1 po (dg 65536 1).length co 1 := hr1
    have hno : (dg 65536 1).length ≤ 1 := dg_length_le (by omega) (by omega)
    generalize (dg 65536 1).length = no at *
    have hhalf : half < W64 := by unfold W64; omega
    go_wp2_with fail
    refine (len_any half hhalf _).mono ?_
    rintro e w' ⟨l, hl64, rfl, HL, rfl⟩
    have hsp := bitLen_spec half hhalf
    rw [← HL.out] at hsp
    have HSP := hid hsp
    have hU1 := hU.keep hg1
    clear hsp hr1 HL hhi
    go_wp2_with fail
    go_loopw [2, 6, 7] (fun s2 s6 s7 wr => ∃ (L K A : Nat) (pa : Option Addr) (na ca : Nat), L ≤ l ∧ s7 = .int .i64 ((L : Int) - 1) ∧ s6 = .int .i64 K ∧ s2 = .slice pa na ca ∧ IsC wr pa na ca A ∧ w1.grownBy wr none ∧ K ≤ half ∧ Hid (K = half / 2 ^ L ∧ RInv N half K A)) (fun _ _ s7 _ => (intOf s7 + 1).toNat)
    case atStart =>
      have e : half / 2 ^ l = 0 := by
        rcases HSP.out with ⟨h, _⟩ | h
        · rw [h]; simp
        · exact Nat.div_eq_of_lt h.2.2
      exact ⟨l, 0, 1, po, no, co, Nat.le_refl _, rfl, rfl, rfl, hone, grown_refl _ _, by omega, hid ⟨e.symm, HST.out⟩⟩
    case round =>
      obtain ⟨Lv, K, A, pa, na, ca, hLl, rfl, rfl, rfl, hA, hgr, hKh, HR⟩ := hrel
      have hna : na ≤ n := hA.len_le (Nat.lt_of_le_of_lt (HR.out.2.le HNP.out) HNL.out)
      by_cases hL0 : 0 < Lv
      · obtain ⟨i, rfl⟩ : ∃ i, Lv = i + 1 := ⟨Lv - 1, by omega⟩
        obtain ⟨J, hJ⟩ : ∃ J, J = half / 2 ^ i := ⟨_, rfl⟩
        have hKJ : K = J / 2 := by rw [HR.out.1, hJ, Nat.pow_succ, Nat.div_div_eq_div_mul]
        have hJ1 : 1 ≤ J := by
          rw [hJ]
          rcases HSP.out with ⟨h, h2⟩ | h
          · omega
          · exact (Nat.le_div_iff_mul_le (Nat.pow_pos (by omega))).2 (by
              rw [Nat.one_mul]
              exact Nat.le_trans (Nat.pow_le_pow_right (by omega) (by omega)) h.2.1)
        have hJh : J ≤ half := by rw [hJ]; exact Nat.div_le_self _ _
        have hKlt : K < J := by omega
        have hJ2 : J ≤ 2 * K + 1 := by omega
        obtain ⟨S1, hS1⟩ : ∃ S1, S1 = 2 * half - K - J + 1 := ⟨_, rfl⟩
        obtain ⟨S2, hS2⟩ : ∃ S2, S2 = J - K - 1 := ⟨_, rfl⟩
        obtain ⟨B, hB⟩ : ∃ B, B = A * 2 ^ (J - K - 1) + N / 2 ^ (2 * half - K - J + 1) / A := ⟨_, rfl⟩
        have HNX := hid (HR.out.2.next HLO.out hKlt hJh hJ2 hB)
        rw [← hS1, ← hS2] at hB
        have hS1b : S1 ≤ 2000000 := by omega
        have hS2b : S2 ≤ 1000000 := by omega
        have e1 : 2 * (half : Int) - (K : Int) - (J : Int) + 1 = (S1 : Int) := by omega
        have e2 : (J : Int) - (K : Int) - 1 = (S2 : Int) := by omega
        have hUr := hU1.keep hgr
        have hApos : 0 < A := HR.out.2.one
        have HB := hid hB
        have HJ := hid hJ
        have eJ : (half : Int) / 2 ^ i = (J : Int) := by rw [hJ]; simp
        clear hS1 hS2 hB hJ hKJ
        go_wp2_with fail
        refine (shiftRight_n (s := S1) hUr (by omega) (by omega)).mono ?_
        rintro e w2 ⟨p2, n2, c2, rfl, hQ, hn2, hg2⟩
        replace hA := hA.keep hg2
        go_wp2_with fail
        refine (natDivMod_n hQ.isN hA.isN (by omega) (by omega) hApos).mono ?_
        rintro e w3 ⟨p3, n3, c3, p4, n4, c4, rfl, hq3, hq4, hn3, hn4, hn4', hg3⟩
        replace hA := hA.keep hg3
        go_wp2_with fail
        refine (shiftLeft_n (s := S2) hA.isN (by omega) (by omega)).mono ?_
        rintro e w4 ⟨p5, n5, c5, rfl, hq5, hn5, hg4⟩
        replace hq3 := hq3.keep hg4
        go_wp2_with fail
        refine (natAdd_n hq5.isN hq3.isN (by omega) (by omega)).mono ?_
        rintro e w5 ⟨p6, n6, c6, rfl, hq6, hn6, hg5⟩
        go_wp2_with fail
        exact ⟨⟨i, J, B, p6, n6, c6, by omega, by congr 1, rfl, rfl, hq6.congr HB.out.symm, grown_trans hgr (grown_trans hg2 (grown_trans hg3 (grown_trans hg4 hg5))), hJh, hid ⟨HJ.out, HNX.out⟩⟩, by simp [intOf]⟩
      · obtain rfl : Lv = 0 := by omega
        have hKe : K = half := by rw [HR.out.1]; simp
        have hR := HR.out.2
        rw [hKe] at hR
        have hD := hR.done
        have hA1 := hR.one
        have hUr := hU1.keep hgr
        have hOr := hone.keep hgr
        clear hKe hR
        have hAA : A * A < 65536 ^ (n + n + 1) := by
          have h1 : A ≤ N := HR.out.2.le HNP.out
          have h2 := Nat.mul_lt_mul'' (Nat.lt_of_le_of_lt h1 HNL.out) (Nat.lt_of_le_of_lt h1 HNL.out)
          rw [← Nat.pow_add] at h2
          exact Nat.lt_of_lt_of_le h2 (Nat.pow_le_pow_right (by omega) (by omega))
        have HAA := hid hAA
        have HD := hid hD
        clear hAA hD
        go_wp2_with fail
        refine (natMul_n hA.isN hA.isN (by omega) (by omega)).mono ?_
        rintro e w2 ⟨p2, n2, c2, rfl, hq2, hn2, hg2⟩
        replace hA := hA.keep hg2
        replace hUr := hUr.keep hg2
        replace hOr := hOr.keep hg2
        by_cases hle : A * A ≤ N
        · have HLE := hid hle
          go_wp2_with fail
          refine (natSub_n hUr hq2.isN (by omega) (by omega) hle).mono ?_
          clear hle
          rintro e w3 ⟨p3, n3, c3, rfl, hq3, hn3, hg3⟩
          go_wp2_with fail
          go_ret2
          exact ⟨A, pa, na, ca, p3, n3, c3, rfl, HLE.out, HD.out.2, hA.keep hg3, hq3, by omega, by omega, grown_trans hg1 (grown_trans hgr (grown_trans hg2 hg3))⟩
        · have HLT : Hid (N < A * A) := hid (by omega)
          clear hle
          obtain ⟨C, rfl⟩ : ∃ C, A = C + 1 := ⟨A - 1, by omega⟩
          have HC : Hid (C * C < N ∧ C + 1 - 1 = C) := hid ⟨by have := HD.out.1; simpa using this, by omega⟩
          go_wp2_with fail
          refine (natSub_e hUr hq2.isN HLT.out).mono ?_
          rintro e w3 ⟨rfl, hg3⟩
          replace hA := hA.keep hg3
          replace hUr := hUr.keep hg3
          replace hOr := hOr.keep hg3
          go_wp2_with fail
          refine (natSub_n hA.isN hOr.isN (by omega) (by omega) (by omega)).mono ?_
          rintro e w4 ⟨p4, n4, c4, rfl, hq4, hn4, hg4⟩
          replace hq4 := hq4.congr HC.out.2
          replace hUr := hUr.keep hg4
          go_wp2_with fail
          refine (natMul_n hq4.isN hq4.isN (by omega) (by omega)).mono ?_
          rintro e w5 ⟨p5, n5, c5, rfl, hq5, hn5, hg5⟩
          replace hq4 := hq4.keep hg5
          replace hUr := hUr.keep hg5
          go_wp2_with fail
          refine (natSub_n hUr hq5.isN (by omega) (by omega) (Nat.le_of_lt HC.out.1)).mono ?_
          rintro e w6 ⟨p6, n6, c6, rfl, hq6, hn6, hg6⟩
          go_wp2_with fail
          go_ret2
          exact ⟨C, p4, n4, c4, p6, n6, c6, rfl, Nat.le_of_lt HC.out.1, HLT.out, hq4.keep hg6, hq6, by omega, by omega, grown_trans hg1 (grown_trans hgr (grown_trans hg2 (grown_trans hg3 (grown_trans hg4 (grown_trans hg5 hg6)))))⟩
end Go.Proofs.YtkggoniecmlglaaDoor
