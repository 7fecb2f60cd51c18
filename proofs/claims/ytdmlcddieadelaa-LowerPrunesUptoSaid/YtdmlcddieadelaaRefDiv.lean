/-
  Contracts of the reference's digit and DivMod.
-/
import Derived.Test.YtdmlcddieadelaaRefMul
import Derived.Test.YtdmlcddieadelaaDivN
set_option linter.unusedVariables false
set_option linter.unusedSimpArgs false
namespace Go.Proofs.Ytdmlcddieadelaa
open Go.RowKit Nm

theorem refOf_c (x : Nat) (hx : x < W64) (w : World) : Calls Try.prog 89 #[.int .u64 x] w fun e w' => ∃ p n c, e = .returned (.slice p n c) ∧ IsC w' p n c x ∧ n ≤ 4 ∧ w.grownBy w' none :=
  (refOf_any x hx w).mono fun e w' ⟨p, c, he, hr, hg⟩ => ⟨p, _, c, he, hr, dg_length_le (by omega) (by rw [← W64_eq]; exact hx), hg⟩

set_option maxHeartbeats 1000000 in
theorem refDigit_n {w : World} {p q : Option Addr} {n c m d R B : Nat} (hR : IsN w p n c R) (hB : IsN w q m d B) (hm : m ≤ 1100000000) (hpos : 0 < B) (hlt : R < 65536 * B) :
    Calls Try.prog 113 #[.slice p n c, .slice q m d] w fun e w' => e = .returned (.int .u64 (R / B : Nat)) ∧ w.grownBy w' none := by
  have hq : R / B ≤ 65535 := by
    have := Nat.div_lt_of_lt_mul (by rw [Nat.mul_comm] at hlt; exact hlt)
    omega
  obtain ⟨Q, hQ⟩ : ∃ Q, Q = R / B := ⟨_, rfl⟩
  have hcmp : ∀ k, k ≤ Q ↔ B * k ≤ R := fun k => by rw [hQ, Nat.le_div_iff_mul_le hpos, Nat.mul_comm]
  have HC := hid hcmp
  rw [← hQ] at hq ⊢
  clear hcmp hQ hlt
  go_enter Try.func113, Try.ntmps113
  go_wp2_with fail
  go_loopw [5, 6] (fun s5 s6 wr => ∃ lo hi : Nat, s5 = .int .u64 lo ∧ s6 = .int .u64 hi ∧ lo ≤ Q ∧ Q ≤ hi ∧ hi ≤ 65535 ∧ w.grownBy wr none) (fun s5 s6 _ => (intOf s6 - intOf s5).toNat)
  case atStart => exact ⟨0, 65535, rfl, rfl, by omega, hq, by omega, grown_refl _ _⟩
  case round =>
    obtain ⟨lo, hi, rfl, rfl, h1, h2, h3, hgr⟩ := hrel
    by_cases hlt : lo < hi
    · have hlt' : (lo : Int) < (hi : Int) := by omega
      obtain ⟨mid, hmid⟩ : ∃ mid, mid = (lo + hi + 1) / 2 := ⟨_, rfl⟩
      have e1 : ((lo : Int) + (hi : Int) + 1) / 2 = (mid : Int) := by omega
      have hm1 : lo < mid := by omega
      have hm2 : mid ≤ hi := by omega
      obtain ⟨mid1, hmid1⟩ : ∃ mid1, mid1 = mid - 1 := ⟨_, rfl⟩
      have e2 : (mid : Int) - 1 = (mid1 : Int) := by omega
      have hB' := hB.keep hgr
      have hR' := hR.keep hgr
      have HMM := hid (And.intro hmid hmid1)
      clear hmid hmid1
      go_wp2_with fail
      refine (refOf_c mid (by unfold W64; omega) _).mono ?_
      rintro e w1 ⟨p1, n1, c1, rfl, hO, hn1, hg1⟩
      go_wp2_with fail
      refine (refMul_n (hB'.keep hg1) hO.isN (by omega) (by omega)).mono ?_
      rintro e w2 ⟨p2, n2, c2, rfl, hM, hn2, hg2⟩
      go_wp2_with fail
      refine (refCmp_n hM.isN ((hR'.keep hg1).keep hg2)).mono ?_
      have hgw := grown_trans hgr (grown_trans hg1 hg2)
      by_cases hle : B * mid ≤ R
      · have hc : cmpI ((B * mid : Nat) : Int) (R : Int) = -1 ∨ cmpI ((B * mid : Nat) : Int) (R : Int) = 0 := by
          rcases Nat.lt_or_ge (B * mid) R with h | h
          · exact .inl (cmpI_lt h)
          · right; rw [show B * mid = R by omega, cmpI_eq]
        have hmq := (HC.out mid).2 hle
        rcases hc with hc | hc <;> rw [hc] <;> clear hc hle
        all_goals
          rintro e w3 ⟨rfl, rfl⟩
          go_wp2_with fail
          exact ⟨⟨mid, hi, rfl, rfl, hmq, h2, h3, hgw⟩, by simp [intOf]; omega⟩
      · have hc : cmpI ((B * mid : Nat) : Int) (R : Int) = 1 := cmpI_gt (by omega)
        have hmq : ¬ mid ≤ Q := fun h => hle ((HC.out mid).1 h)
        rw [hc]
        clear hc hle
        rintro e w3 ⟨rfl, rfl⟩
        go_wp2_with fail
        exact ⟨⟨lo, mid1, rfl, rfl, h1, by have := HMM.out.2; omega, by omega, hgw⟩, by simp [intOf]; omega⟩
    · obtain rfl : lo = Q := by omega
      go_wp2_with fail
      go_ret
      exact ⟨rfl, hgr⟩

/-- a new slice of one number, of the call's own -/
theorem one_own (w : World) (base : Nat) (e : TypeId) (k : IntKind) (v : Int) (y : Nat) (hv : v = (y : Int)) (hb : base ≤ w.heap.size) : IOwn (w.alloc (.cells #[.int k v] e)) base e k (some ⟨w.heap.size, 0, none⟩) 1 1 [y] := by
  subst hv
  exact IOwn.made w base e k [y] hb (by simp)

theorem cons_isN {w : World} {p : Option Addr} {n c x : Nat} {xs : List Nat} (h : IRd w .u16 p (1 + n) c ([x] ++ xs)) (hx : x < 65536) (hd : Dg 65536 xs) : IsN w p (1 + n) c (x + 65536 * V 65536 xs) :=
  ⟨_, h, Dg.cons hx hd, rfl⟩

theorem refDivMod_e {w : World} {p q : Option Addr} {n c m d N : Nat} (hA : IsN w p n c N) (hB : IsN w q m d 0) (hn : n ≤ 1100000000) (hm : m ≤ 1100000000) :
    Calls Try.prog 104 #[.slice p n c, .slice q m d] w fun e w' => e = .returned (.tuple #[.slice none 0 0, .slice none 0 0, .int .i64 3]) ∧ w.grownBy w' none := by
  go_enter Try.func104, Try.ntmps104
  go_wp2_with fail
  refine (refNorm_n hA (by omega)).mono ?_
  rintro e w1 ⟨p1, n1, c1, rfl, hA1, hn1, hg1⟩
  go_wp2_with fail
  refine (refNorm_n (hB.keep hg1) (by omega)).mono ?_
  rintro e w2 ⟨p2, n2, c2, rfl, hB2, hn2, hg2⟩
  have hz : n2 = 0 := by rw [← hB2.len]; rfl
  subst hz
  go_wp2_with fail
  go_ret3
  exact ⟨rfl, grown_trans hg1 hg2⟩

set_option maxHeartbeats 2000000 in
theorem refDivMod_n {w : World} {p q : Option Addr} {n c m d N M : Nat} (hA : IsN w p n c N) (hB : IsN w q m d M) (hn : n ≤ 1100000000) (hm : m ≤ 1100000000) (hpos : 0 < M) :
    Calls Try.prog 104 #[.slice p n c, .slice q m d] w fun e w' => ∃ (p1 : Option Addr) (n1 c1 : Nat) (p2 : Option Addr) (n2 c2 : Nat), e = .returned (.tuple #[.slice p1 n1 c1, .slice p2 n2 c2, .int .i64 0]) ∧
      IsC w' p1 n1 c1 (N / M) ∧ IsC w' p2 n2 c2 (N % M) ∧ n1 ≤ n ∧ n2 ≤ n ∧ w.grownBy w' none := by
  have HNL := hid hA.lt
  have HML := hid hB.lt
  go_enter Try.func104, Try.ntmps104
  go_wp2_with fail
  refine (refNorm_n hA (by omega)).mono ?_
  rintro e w1 ⟨p1, n1, c1, rfl, hA1, hn1, hg1⟩
  go_wp2_with fail
  refine (refNorm_n (hB.keep hg1) (by omega)).mono ?_
  rintro e w2 ⟨p2, n2, c2, rfl, hB2, hn2, hg2⟩
  replace hA1 := hA1.keep hg2
  have hgw := grown_trans hg1 hg2
  have hn20 : n2 ≠ 0 := by
    intro h0
    have := hB2.isN.lt
    rw [h0] at this; simp at this; omega
  have e0 : (((n2 : Int) == 0) = false) := beq_eq_false_iff_ne.2 (by omega)
  clear hg1 hg2 hA hB
  by_cases h4 : n1 ≤ 4 ∧ n2 ≤ 4
  · obtain ⟨h41, h42⟩ := h4
    have h41' : (n1 : Int) ≤ 4 := by omega
    have h42' : (n2 : Int) ≤ 4 := by omega
    have hNb : N < W64 := by rw [W64_eq]; exact Nat.lt_of_lt_of_le hA1.isN.lt (Nat.pow_le_pow_right (by omega) h41)
    have hMb : M < W64 := by rw [W64_eq]; exact Nat.lt_of_lt_of_le hB2.isN.lt (Nat.pow_le_pow_right (by omega) h42)
    have HS1 := fun W (h : IsC W p1 n1 c1 N) => refShort_any p1 n1 c1 _ W h (Can_dg (by omega) N).1 h41
    have HS2 := fun W (h : IsC W p2 n2 c2 M) => refShort_any p2 n2 c2 _ W h (Can_dg (by omega) M).1 h42
    simp only [V_dg (show 1 < 65536 by omega)] at HS1 HS2
    have HS1' := hid HS1
    have HS2' := hid HS2
    have hqb : N / M < W64 := Nat.lt_of_le_of_lt (Nat.div_le_self _ _) hNb
    have hrb : N % M < W64 := Nat.lt_of_le_of_lt (Nat.mod_le _ _) hNb
    obtain ⟨Q, hQ⟩ : ∃ Q, Q = N / M := ⟨_, rfl⟩
    obtain ⟨R, hR⟩ : ∃ R, R = N % M := ⟨_, rfl⟩
    have eq1 : IntKind.u64.wrap ((N : Int) / (M : Int)) = (Q : Int) := by rw [hQ, ← Int.natCast_ediv]; exact wrap_in _ hqb
    have eq2 : (N : Int) / (M : Int) = (Q : Int) := by rw [hQ]; simp
    have eq3 : (N : Int) % (M : Int) = (R : Int) := by rw [hR]; simp
    have eq4 : (N : Int).tmod (M : Int) = (R : Int) := by rw [hR]; rfl
    rw [← hQ] at hqb
    rw [← hR] at hrb
    have HQR := hid (And.intro hQ hR)
    have eq5 : IntKind.u64.wrap (Q : Int) = (Q : Int) := wrap_in _ hqb
    have eq6 : IntKind.u64.wrap (R : Int) = (R : Int) := wrap_in _ hrb
    have hQN : Q ≤ N := by rw [hQ]; exact Nat.div_le_self _ _
    have hRN : R ≤ N := by rw [hR]; exact Nat.mod_le _ _
    have HQN := hid (And.intro hQN hRN)
    have hM1 : (1 : Int) ≤ (M : Int) := by omega
    have hN0 : (0 : Int) ≤ (N : Int) := by omega
    clear hQ hR HS1 HS2 hQN hRN
    go_wp2_with fail
    refine (HS1'.out _ hA1).mono ?_
    rintro e w' ⟨rfl, rfl⟩
    go_wp2_with fail
    refine (HS2'.out _ hB2).mono ?_
    rintro e w' ⟨rfl, rfl⟩
    go_wp2_with fail
    refine (refOf_c Q hqb _).mono ?_
    rintro e w3 ⟨p3, n3, c3, rfl, hq3, hn3, hg3⟩
    replace hA1 := hA1.keep hg3
    replace hB2 := hB2.keep hg3
    go_wp2_with fail
    refine (HS1'.out _ hA1).mono ?_
    rintro e w' ⟨rfl, rfl⟩
    go_wp2_with fail
    refine (HS2'.out _ hB2).mono ?_
    rintro e w' ⟨rfl, rfl⟩
    go_wp2_with fail
    refine (refOf_c R hrb _).mono ?_
    rintro e w4 ⟨p4, n4, c4, rfl, hq4, hn4, hg4⟩
    go_wp2_with fail
    go_ret3
    exact ⟨p3, n3, c3, p4, n4, c4, rfl, (hq3.keep hg4).congr HQR.out.1, hq4.congr HQR.out.2, hq3.len_le (Nat.lt_of_le_of_lt HQN.out.1 HNL.out), hq4.len_le (Nat.lt_of_le_of_lt HQN.out.2 HNL.out), grown_trans hgw (grown_trans hg3 hg4)⟩
  · have hguard : (¬ ((n1 : Int) ≤ 4)) ∨ ((n1 : Int) ≤ 4 ∧ ¬ ((n2 : Int) ≤ 4)) := by omega
    clear h4
    have hAc := hA1
    obtain ⟨us, hus⟩ : ∃ us, us = dg 65536 N := ⟨_, rfl⟩
    have hcx : Nm.Can 65536 us := by rw [hus]; exact Can_dg (by omega) N
    have hVu : V 65536 us = N := by rw [hus]; exact V_dg (by omega) N
    have ht : IRd w2 .u16 p1 n1 c1 us := by rw [hus]; exact hA1
    have hul : us.length = n1 := ht.len
    have hcap := ht.cap
    have hmax := ht.max
    have HVU := hid hVu
    have HUL := hid hul
    clear hus hAc hVu hul
    have Hstart : Hid (V 65536 (us.drop n1) = 0) := hid (by rw [List.drop_of_length_le (by rw [HUL.out]; exact Nat.le_refl _)]; rfl)
    rcases hguard with hg | ⟨hg, hg'⟩
    all_goals
      go_wp2_with fail
      go_loopw [7, 8, 9] (fun s7 s8 s9 wr => ∃ (k : Nat) (pq : Option Addr) (nq cq : Nat) (qs : List Nat) (pr : Option Addr) (nr cr : Nat), k ≤ n1 ∧ s9 = .int .i64 ((k : Int) - 1) ∧ s7 = .slice pq nq cq ∧ s8 = .slice pr nr cr ∧ nq + k = n1 ∧ IRd wr .u16 pq nq cq qs ∧
          IsC wr pr nr cr (V 65536 (us.drop k) % M) ∧ w2.grownBy wr none ∧ Hid (Dg 65536 qs ∧ V 65536 qs = V 65536 (us.drop k) / M)) (fun _ _ s9 _ => (intOf s9 + 1).toNat)
      case atStart => exact ⟨n1, none, 0, 0, [], none, 0, 0, Nat.le_refl _, rfl, rfl, rfl, by omega, IRd.nil _ _, (IsC.nil _).congr (by rw [Hstart.out]; simp), grown_refl _ _, hid ⟨Dg.nil, by rw [Hstart.out]; simp⟩⟩
      case round =>
        obtain ⟨k, pq, nq, cq, qs, pr, nr, cr, hk, rfl, rfl, rfl, hnk, hq, hr, hgr, HC⟩ := hrel
        by_cases h0 : 0 < k
        · obtain ⟨i, rfl⟩ : ∃ i, k = i + 1 := ⟨k - 1, by omega⟩
          have hil : i < us.length := by rw [HUL.out]; omega
          obtain ⟨b, o, rfl, hc1⟩ := ht.cel i hil
          have hc2 := hgr.cell hc1 (by simp)
          obtain ⟨x, hx⟩ : ∃ x, x = us[i] := ⟨_, rfl⟩
          rw [← hx] at hc2
          have hxb : x < 65536 := by rw [hx]; exact hcx.1.get i hil
          have hdk := V_drop_succ (B := 65536) us i hil
          rw [← hx] at hdk
          have hdd := div_down (W := 65536) (x := M) (y := x) (v := V 65536 (us.drop (i + 1))) (Q := V 65536 (us.drop (i + 1)) / M) hpos rfl
          have hrM : V 65536 (us.drop (i + 1)) % M < M := Nat.mod_lt _ hpos
          obtain ⟨rr, hrr⟩ : ∃ rr, rr = V 65536 (us.drop (i + 1)) % M := ⟨_, rfl⟩
          rw [← hrr] at hr hdd hrM
          have hnr : nr ≤ m := hr.len_le (Nat.lt_trans hrM HML.out)
          have hR' : x + 65536 * rr < 65536 * M := by
            have := Nat.mul_le_mul_left 65536 (show rr + 1 ≤ M from hrM)
            omega
          have HDD := hid (And.intro hdd hdk)
          have HRR := hid hrr
          have HR' := hid hR'
          have hBr := hB2.keep hgr
          have hi0 : (0 : Int) ≤ (i : Int) := by omega
          have hi1 : (i : Int) < (n1 : Int) := by omega
          have hrd : IRd wr .u16 pr nr cr (dg 65536 rr) := hr
          have hnrb : nr ≤ 1100000000 := by omega
          have hnqb : nq ≤ 1100000000 := by omega
          clear hc1 hx hdk hdd hrM hrr hR'
          go_wp2_with (with_reducible refine wl_append _ rfl (.tmp 49) (.tmp 50) 52 rfl 99 .u16 2 Try.underlying52 info16 wr.heap.size _ _ _ [x] rfl (one_own wr wr.heap.size _ _ _ x rfl (Nat.le_refl _)) _ nr cr _ rfl (IRd.keep hrd (World.grownBy_alloc _ _ none)) (by omega) (by omega) wr (World.grownBy_alloc _ _ none) (Nat.le_refl _) (by simp) ?_; intro p3 c3 w3 ho3 hg3)
          have hN3 : IsN w3 p3 (1 + nr) c3 (x + 65536 * rr) := by
            have := cons_isN ho3.rd hxb (Can_dg (by omega) rr).1
            rwa [V_dg (by omega)] at this
          refine (refNorm_n hN3 (by omega)).mono ?_
          rintro e w4 ⟨p4, n4, c4, rfl, hR4, hn4, hg4⟩
          have hg34 := grown_trans hg3 hg4
          replace hBr := hBr.keep hg34
          replace hq := hq.keep hg34
          replace hgr := grown_trans hgr hg34
          clear hN3 ho3 hg3 hg4 hg34 hr hrd hc2
          obtain ⟨R4, hR4'⟩ : ∃ R4, R4 = x + 65536 * rr := ⟨_, rfl⟩
          obtain ⟨dd, hdd⟩ : ∃ dd, dd = R4 / M := ⟨_, rfl⟩
          have hRlt := HR'.out
          rw [← hR4'] at hR4 hRlt
          have HDG := hid (refDigit_n hR4.isN hBr.isN (by omega) hpos hRlt)
          rw [← hdd] at HDG
          have hddb : dd < 65536 := by rw [hdd]; exact Nat.div_lt_of_lt_mul (by rw [Nat.mul_comm]; exact hRlt)
          have eD : IntKind.u16.wrap (dd : Int) = (dd : Int) := by rw [IntKind.wrap_u16]; omega
          have hsub : M * dd ≤ R4 := by rw [hdd]; exact Nat.mul_div_le _ _
          have hmod : R4 - M * dd = R4 % M := by
            have := Nat.div_add_mod R4 M
            rw [← hdd] at this; omega
          have HX := hid (And.intro hR4' (And.intro hdd (And.intro hsub hmod)))
          clear hR4' hdd hsub hmod hRlt
          go_wp2_with fail
          refine HDG.out.mono ?_
          rintro e w5 ⟨rfl, hg5⟩
          replace hBr := hBr.keep hg5
          replace hq := hq.keep hg5
          replace hR4 := hR4.keep hg5
          replace hgr := grown_trans hgr hg5
          clear HDG hg5
          go_wp2_with (with_reducible refine wl_append _ rfl (.tmp 58) (.tmp 59) 52 rfl 99 .u16 2 Try.underlying52 info16 w5.heap.size _ _ _ [dd] rfl (one_own w5 w5.heap.size _ _ _ dd (by first | rfl | exact eD) (Nat.le_refl _)) _ nq cq _ rfl (IRd.keep hq (World.grownBy_alloc _ _ none)) (by omega) (by omega) w5 (World.grownBy_alloc _ _ none) (Nat.le_refl _) (by simp) ?_; intro p6 c6 w6 ho6 hg6)
          replace hBr := hBr.keep hg6
          replace hR4 := hR4.keep hg6
          replace hgr := grown_trans hgr hg6
          have hq6 := ho6.rd
          clear ho6 hg6 hq
          refine (refOf_c dd (by unfold W64; omega) _).mono ?_
          rintro e w7 ⟨p7, n7, c7, rfl, hO, hn7, hg7⟩
          go_wp2_with fail
          refine (refMul_n (hBr.keep hg7).isN hO.isN (by omega) (by omega)).mono ?_
          rintro e w8 ⟨p8, n8, c8, rfl, hM8, hn8, hg8⟩
          have hg78 := grown_trans hg7 hg8
          replace hR4 := hR4.keep hg78
          replace hq6 := hq6.keep hg78
          replace hgr := grown_trans hgr hg78
          go_wp2_with fail
          refine (refSub_n hR4.isN hM8.isN (by omega) HX.out.2.2.1).mono ?_
          rintro e w9 ⟨p9, n9, c9, rfl, hS9, hn9, hg9⟩
          replace hq6 := hq6.keep hg9
          replace hgr := grown_trans hgr hg9
          go_wp2_with fail
          have hx1 := HX.out
          have hx2 := HDD.out
          have e5 : rr * 65536 + x = R4 := by rw [hx1.1]; omega
          rw [e5] at hx2
          refine ⟨⟨i, p6, 1 + nq, c6, [dd] ++ qs, p9, n9, c9, by omega, by congr 1, rfl, rfl, by omega, hq6, hS9.congr ?_, hgr, hid ⟨Dg.cons hddb HC.out.1, ?_⟩⟩, by simp [intOf]⟩
          · rw [hx1.2.2.2, hx2.1.2, hx2.2]
          · rw [List.singleton_append, V_cons, HC.out.2, hx1.2.1, hx2.1.1, hx2.2]
        · obtain rfl : k = 0 := by omega
          have hr' := hr
          rw [List.drop_zero, HVU.out] at hr'
          have hqv := HC.out.2
          rw [List.drop_zero, HVU.out] at hqv
          have hqN : IsN wr pq nq cq (N / M) := ⟨qs, hq, HC.out.1, hqv⟩
          have hrn : nr ≤ n := hr'.len_le (Nat.lt_of_le_of_lt (Nat.mod_le _ _) HNL.out)
          clear hqv hr
          go_wp2_with fail
          refine (refNorm_n hqN (by omega)).mono ?_
          rintro e w4 ⟨p4, n4, c4, rfl, hq4, hn4, hg4⟩
          go_wp2_with fail
          go_ret3
          exact ⟨p4, n4, c4, pr, nr, cr, rfl, hq4, hr'.keep hg4, by omega, hrn, grown_trans hgw (grown_trans hgr hg4)⟩
end Go.Proofs.Ytdmlcddieadelaa
