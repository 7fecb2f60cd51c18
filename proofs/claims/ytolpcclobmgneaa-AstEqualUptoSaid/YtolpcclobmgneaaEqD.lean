/-
  Contract of the equality of expressions in the reference.
-/
import Derived.Test.YtolpcclobmgneaaEqC
import Derived.Deep.RegionHeld3
set_option linter.unusedVariables false
set_option linter.unusedSimpArgs false
namespace Go.Proofs.Ytolpcclobmgneaa
open Go.RowKit _root_.Nm

set_option maxHeartbeats 16000000 in
set_option maxRecDepth 100000 in
theorem rEqualExpr_ok : ∀ (m : Nat), ∀ (m' : Nat) (cs cs' : List Value) (t t' : Tr) (b : Bool) (w : World), ERd w m cs t → ERd w m' cs' t' → (b = true ↔ EqP m t t') →
    Calls Try.prog 5 #[.agg cs.toArray, .agg cs'.toArray] w fun e w' => e = .returned (.bool b) ∧ w.grownBy w' none
  | 0 => fun _ _ _ _ _ _ _ h _ _ => h.elim
  | m + 1 => fun m' cs cs' t t' b w hE hE' hb => by
    have IH := hid (rEqualExpr_ok m)
    cases m' with
    | zero => exact hE'.elim
    | succ q =>
    cases t with
    | node h l =>
    cases t' with
    | node h' l' =>
    obtain ⟨e1, e2, e3, p1, n1, c1, p2, n2, c2, p3, n3, c3, e7, rfl⟩ := hE.shape
    obtain ⟨x1, x2, x3, q1, m1, d1, q2, m2, d2, q3, m3, d3, x7, rfl⟩ := hE'.shape
    obtain ⟨⟨r1, r2, r3, -⟩, hn, hd, hA, -⟩ := ARd.of hE
    obtain ⟨⟨s1, s2, s3, -⟩, hn', hd', hA', -⟩ := ARd.of hE'
    obtain ⟨⟨hla, hca, hma⟩, _⟩ := id hA
    obtain ⟨⟨hlb, hcb, hmb⟩, _⟩ := id hA'
    obtain ⟨v1, hv1⟩ := ex_bool (e3 = x3 ∧ h.num = h'.num ∧ h.den = h'.den)
    obtain ⟨v2, hv2⟩ := ex_bool (l.length = l'.length ∧ ∀ i (hi : i < l.length) (hi' : i < l'.length), EqP m l[i] l'[i])
    have hbb : b = (decide (e1 = x1) && (decide (e2 = x2) && (v1 && v2))) := by
      rw [Bool.eq_iff_iff, hb, EqP, ← r1, ← r2, ← r3, ← s1, ← s2, ← s3]
      simp only [Bool.and_eq_true, decide_eq_true_eq, hv1, hv2, and_assoc]
    have HR := hid fun w' (hg : w.grownBy w' none) => sameRat_any e3 x3 p1 p2 q1 q2 n1 c1 n2 c2 m1 d1 m2 d2 _ _ _ _ v1 hv1 w' (hn.keep hg) (hd.keep hg) (hn'.keep hg) (hd'.keep hg)
    have HA := hid hA
    have HA' := hid hA'
    have HV2 := hid hv2
    subst hbb
    clear hE hE' hb hn hd hA hn' hd' hA' hv1 hv2 r1 r2 r3 s1 s2 s3
    obtain ⟨⟨k0, k1, k2, k3, k4, k5, k6⟩, -⟩ := box7 (blk1 w (.cells #[.int .i64 e1, .string e2, .bool e3, .slice p1 n1 c1, .slice p2 n2 c2, .slice p3 n3 c3, .int .i64 e7] 30 (0, 0)) (.cells #[.int .i64 x1, .string x2, .bool x3, .slice q1 m1 d1, .slice q2 m2 d2, .slice q3 m3 d3, .int .i64 x7] 30 (0, 0)))
    have bx := blk0 (w.alloc (.cells #[.int .i64 e1, .string e2, .bool e3, .slice p1 n1 c1, .slice p2 n2 c2, .slice p3 n3 c3, .int .i64 e7] 30 (0, 0))) (.cells #[.int .i64 x1, .string x2, .bool x3, .slice q1 m1 d1, .slice q2 m2 d2, .slice q3 m3 d3, .int .i64 x7] 30 (0, 0))
    rw [show (w.alloc (.cells #[.int .i64 e1, .string e2, .bool e3, .slice p1 n1 c1, .slice p2 n2 c2, .slice p3 n3 c3, .int .i64 e7] 30 (0, 0))).heap.size = w.heap.size + 1 by simp] at bx
    obtain ⟨⟨j0, j1, j2, j3, j4, j5, j6⟩, -⟩ := box7 bx
    clear bx
    have hW := grown_trans (World.grownBy_alloc w (.cells #[.int .i64 e1, .string e2, .bool e3, .slice p1 n1 c1, .slice p2 n2 c2, .slice p3 n3 c3, .int .i64 e7] 30 (0, 0)) none) (World.grownBy_alloc _ (.cells #[.int .i64 x1, .string x2, .bool x3, .slice q1 m1 d1, .slice q2 m2 d2, .slice q3 m3 d3, .int .i64 x7] 30 (0, 0)) none)
    by_cases h1 : e1 = x1
    · subst h1
      by_cases h2 : e2 = x2
      · subst h2
        cases v1
        · go_enter Try.func5, Try.ntmps5
          go_upto_region 1 with fail
          generalize ((w.alloc _).alloc _) = w0 at *
          go_wp2_with (first
            | (go_at_call 10; refine (HR.out _ hW).mono ?_; rintro e w1 ⟨rfl, hg⟩; replace hW := grown_trans hW hg; replace k0 := hg.cell k0 (by simp); replace k1 := hg.cell k1 (by simp); replace k2 := hg.cell k2 (by simp); replace k3 := hg.cell k3 (by simp); replace k4 := hg.cell k4 (by simp); replace k5 := hg.cell k5 (by simp); replace k6 := hg.cell k6 (by simp); replace j0 := hg.cell j0 (by simp); replace j1 := hg.cell j1 (by simp); replace j2 := hg.cell j2 (by simp); replace j3 := hg.cell j3 (by simp); replace j4 := hg.cell j4 (by simp); replace j5 := hg.cell j5 (by simp); replace j6 := hg.cell j6 (by simp); clear HR hg))
          go_ret
          exact ⟨by simp, hW⟩
        · by_cases hnn : n3 = m3
          · subst hnn
            go_enter Try.func5, Try.ntmps5
            go_upto_region 1 with fail
            generalize ((w.alloc _).alloc _) = w0 at *
            go_wp2_with (first
              | (go_at_call 10; refine (HR.out _ hW).mono ?_; rintro e w1 ⟨rfl, hg⟩; replace hW := grown_trans hW hg; replace k0 := hg.cell k0 (by simp); replace k1 := hg.cell k1 (by simp); replace k2 := hg.cell k2 (by simp); replace k3 := hg.cell k3 (by simp); replace k4 := hg.cell k4 (by simp); replace k5 := hg.cell k5 (by simp); replace k6 := hg.cell k6 (by simp); replace j0 := hg.cell j0 (by simp); replace j1 := hg.cell j1 (by simp); replace j2 := hg.cell j2 (by simp); replace j3 := hg.cell j3 (by simp); replace j4 := hg.cell j4 (by simp); replace j5 := hg.cell j5 (by simp); replace j6 := hg.cell j6 (by simp); clear HR hg))
            have HW1 := hid hW
            have K5 := hid k5
            have J5 := hid j5
            go_loopw [38] (fun x wr => ∃ k : Nat, k ≤ n3 ∧ x = .int .i64 k ∧ w1.grownBy wr none ∧ ∀ i (hi : i < l.length) (hi' : i < l'.length), i < k → EqP m l[i] l'[i]) (fun x _ => n3 - (intOf x).toNat)
            case atStart => exact ⟨0, Nat.zero_le _, rfl, grown_refl _ _, fun i _ _ h => absurd h (Nat.not_lt_zero i)⟩
            case round =>
              clear k0 k1 k2 k3 k4 k5 k6 j0 j1 j2 j3 j4 j5 j6 hW
              obtain ⟨k, hk, rfl, hg, hall⟩ := hrel
              have HALL := hid hall
              have hgr := grown_trans HW1.out hg
              clear hall
              by_cases hlt : k < n3
              · have k5 := hg.cell K5.out (by simp)
                have j5 := hg.cell J5.out (by simp)
                obtain ⟨bA, oA, u1, u2, u3, y1, r1, s1, y2, r2, s2, y3, r3, s3, u7, rfl, hE1, a0, a1, a2, a3, a4, a5, a6⟩ := (HA.out.keep hgr).at (i := k) (by omega)
                obtain ⟨bB, oB, o1, o2, o3, z1, i1, f1, z2, i2, f2, z3, i3, f3, o7, rfl, hE2, b0, b1, b2, b3, b4, b5, b6⟩ := (HA'.out.keep hgr).at (i := k) (by omega)
                have HE1 := hE1
                obtain ⟨bq, hbq⟩ := ex_bool (EqP m (l[k]'(by omega)) (l'[k]'(by omega)))
                have HC := hid fun w' (hg : wr.grownBy w' none) => IH.out q _ _ _ _ bq w' (hE1.keep hg) (hE2.keep hg) hbq
                have HQ := hid hbq
                have HWR := hid hgr
                clear hE1 hE2 HE1 hbq
                replace hgr := grown_refl wr none
                cases bq
                · obtain rfl : v2 = false := by
                    rw [← Bool.not_eq_true, HV2.out]
                    rintro ⟨_, h⟩
                    have := HQ.out.2 (h k (by omega) (by omega))
                    cases this
                  go_wp2_with fail
                  go_region_held3 (fun w' => w'.cell? ⟨w.heap.size, 5, none⟩ = some (.slice (some ⟨bA, oA, none⟩) n3 c3) ∧ w'.cell? ⟨w.heap.size + 1, 5, none⟩ = some (.slice (some ⟨bB, oB, none⟩) n3 d3) ∧ w'.cell? ⟨bA, oA + k * 7, none⟩ = some (.int .i64 u1) ∧ w'.cell? ⟨bA, oA + k * 7 + 1, none⟩ = some (.string u2) ∧ w'.cell? ⟨bA, oA + k * 7 + 2, none⟩ = some (.bool u3) ∧ w'.cell? ⟨bA, oA + k * 7 + 3, none⟩ = some (.slice y1 r1 s1) ∧ w'.cell? ⟨bA, oA + k * 7 + 4, none⟩ = some (.slice y2 r2 s2) ∧ w'.cell? ⟨bA, oA + k * 7 + 5, none⟩ = some (.slice y3 r3 s3) ∧ w'.cell? ⟨bA, oA + k * 7 + 6, none⟩ = some (.int .i64 u7) ∧ w'.cell? ⟨bB, oB + k * 7, none⟩ = some (.int .i64 o1) ∧ w'.cell? ⟨bB, oB + k * 7 + 1, none⟩ = some (.string o2) ∧ w'.cell? ⟨bB, oB + k * 7 + 2, none⟩ = some (.bool o3) ∧ w'.cell? ⟨bB, oB + k * 7 + 3, none⟩ = some (.slice z1 i1 f1) ∧ w'.cell? ⟨bB, oB + k * 7 + 4, none⟩ = some (.slice z2 i2 f2) ∧ w'.cell? ⟨bB, oB + k * 7 + 5, none⟩ = some (.slice z3 i3 f3) ∧ w'.cell? ⟨bB, oB + k * 7 + 6, none⟩ = some (.int .i64 o7) ∧ wr.grownBy w' none) ((try go_split_ands) <;> (repeat' apply And.intro) <;> (first | (with_reducible assumption) | (with_reducible refine (grown_drew _ none).cell ?_ (by simp); with_reducible assumption) | (with_reducible refine grown_trans ?_ (grown_drew _ none); with_reducible assumption))) (first
                    | (go_at_call 5; (first | refine (HC.out _ hgr).mono ?_ | refine (HC.out _ (grown_drew _ none)).mono ?_); rintro e w2 ⟨rfl, hg2⟩; (first | replace hgr := grown_trans hgr hg2 | replace hgr := grown_trans (grown_trans hgr (grown_drew _ none)) hg2); replace k5 := hg2.cell k5 (by simp); replace j5 := hg2.cell j5 (by simp); replace a0 := hg2.cell a0 (by simp); replace a1 := hg2.cell a1 (by simp); replace a2 := hg2.cell a2 (by simp); replace a3 := hg2.cell a3 (by simp); replace a4 := hg2.cell a4 (by simp); replace a5 := hg2.cell a5 (by simp); replace a6 := hg2.cell a6 (by simp); replace b0 := hg2.cell b0 (by simp); replace b1 := hg2.cell b1 (by simp); replace b2 := hg2.cell b2 (by simp); replace b3 := hg2.cell b3 (by simp); replace b4 := hg2.cell b4 (by simp); replace b5 := hg2.cell b5 (by simp); replace b6 := hg2.cell b6 (by simp)))
                  go_wp2_with fail
                  go_ret
                  exact ⟨by simp, grown_trans HWR.out hgr⟩
                · go_wp2_with fail
                  go_region_held3 (fun w' => w'.cell? ⟨w.heap.size, 5, none⟩ = some (.slice (some ⟨bA, oA, none⟩) n3 c3) ∧ w'.cell? ⟨w.heap.size + 1, 5, none⟩ = some (.slice (some ⟨bB, oB, none⟩) n3 d3) ∧ w'.cell? ⟨bA, oA + k * 7, none⟩ = some (.int .i64 u1) ∧ w'.cell? ⟨bA, oA + k * 7 + 1, none⟩ = some (.string u2) ∧ w'.cell? ⟨bA, oA + k * 7 + 2, none⟩ = some (.bool u3) ∧ w'.cell? ⟨bA, oA + k * 7 + 3, none⟩ = some (.slice y1 r1 s1) ∧ w'.cell? ⟨bA, oA + k * 7 + 4, none⟩ = some (.slice y2 r2 s2) ∧ w'.cell? ⟨bA, oA + k * 7 + 5, none⟩ = some (.slice y3 r3 s3) ∧ w'.cell? ⟨bA, oA + k * 7 + 6, none⟩ = some (.int .i64 u7) ∧ w'.cell? ⟨bB, oB + k * 7, none⟩ = some (.int .i64 o1) ∧ w'.cell? ⟨bB, oB + k * 7 + 1, none⟩ = some (.string o2) ∧ w'.cell? ⟨bB, oB + k * 7 + 2, none⟩ = some (.bool o3) ∧ w'.cell? ⟨bB, oB + k * 7 + 3, none⟩ = some (.slice z1 i1 f1) ∧ w'.cell? ⟨bB, oB + k * 7 + 4, none⟩ = some (.slice z2 i2 f2) ∧ w'.cell? ⟨bB, oB + k * 7 + 5, none⟩ = some (.slice z3 i3 f3) ∧ w'.cell? ⟨bB, oB + k * 7 + 6, none⟩ = some (.int .i64 o7) ∧ wr.grownBy w' none) ((try go_split_ands) <;> (repeat' apply And.intro) <;> (first | (with_reducible assumption) | (with_reducible refine (grown_drew _ none).cell ?_ (by simp); with_reducible assumption) | (with_reducible refine grown_trans ?_ (grown_drew _ none); with_reducible assumption))) (first
                    | (go_at_call 5; (first | refine (HC.out _ hgr).mono ?_ | refine (HC.out _ (grown_drew _ none)).mono ?_); rintro e w2 ⟨rfl, hg2⟩; (first | replace hgr := grown_trans hgr hg2 | replace hgr := grown_trans (grown_trans hgr (grown_drew _ none)) hg2); replace k5 := hg2.cell k5 (by simp); replace j5 := hg2.cell j5 (by simp); replace a0 := hg2.cell a0 (by simp); replace a1 := hg2.cell a1 (by simp); replace a2 := hg2.cell a2 (by simp); replace a3 := hg2.cell a3 (by simp); replace a4 := hg2.cell a4 (by simp); replace a5 := hg2.cell a5 (by simp); replace a6 := hg2.cell a6 (by simp); replace b0 := hg2.cell b0 (by simp); replace b1 := hg2.cell b1 (by simp); replace b2 := hg2.cell b2 (by simp); replace b3 := hg2.cell b3 (by simp); replace b4 := hg2.cell b4 (by simp); replace b5 := hg2.cell b5 (by simp); replace b6 := hg2.cell b6 (by simp)))
                  go_wp2_with fail
                  exact ⟨⟨k + 1, by omega, by go_num, grown_trans hg hgr, fun i hi hi' h => by
                    rcases Nat.lt_or_eq_of_le (Nat.le_of_lt_succ h) with h | rfl
                    · exact HALL.out i hi hi' h
                    · exact HQ.out.1 trivial⟩, by simp [intOf]; omega⟩
              · obtain rfl : k = n3 := by omega
                obtain rfl : v2 = true := HV2.out.2 ⟨by omega, fun i hi hi' => HALL.out i hi hi' (by omega)⟩
                go_wp2_with fail
                go_ret
                exact ⟨by simp, hgr⟩
          · obtain rfl : v2 = false := by
              rw [← Bool.not_eq_true, HV2.out]
              rintro ⟨h, _⟩
              omega
            have hz : ¬ (n3 : Int) = (m3 : Int) := by omega
            go_enter Try.func5, Try.ntmps5
            go_upto_region 1 with fail
            generalize ((w.alloc _).alloc _) = w0 at *
            go_wp2_with (first
              | (go_at_call 10; refine (HR.out _ hW).mono ?_; rintro e w1 ⟨rfl, hg⟩; replace hW := grown_trans hW hg; replace k0 := hg.cell k0 (by simp); replace k1 := hg.cell k1 (by simp); replace k2 := hg.cell k2 (by simp); replace k3 := hg.cell k3 (by simp); replace k4 := hg.cell k4 (by simp); replace k5 := hg.cell k5 (by simp); replace k6 := hg.cell k6 (by simp); replace j0 := hg.cell j0 (by simp); replace j1 := hg.cell j1 (by simp); replace j2 := hg.cell j2 (by simp); replace j3 := hg.cell j3 (by simp); replace j4 := hg.cell j4 (by simp); replace j5 := hg.cell j5 (by simp); replace j6 := hg.cell j6 (by simp); clear HR hg))
            go_ret
            exact ⟨by simp, hW⟩
      · go_enter Try.func5, Try.ntmps5
        go_upto_region 1 with fail
        generalize ((w.alloc _).alloc _) = w0 at *
        have hz : (e2.toList == x2.toList) = false := by
          rw [beq_eq_false_iff_ne]
          exact fun h => h2 (bytes_eq.1 h)
        go_wp2_with fail
        go_ret
        exact ⟨by simp [h2], hW⟩
    · go_enter Try.func5, Try.ntmps5
      go_upto_region 1 with fail
      generalize ((w.alloc _).alloc _) = w0 at *
      have hz := h1
      go_wp2_with fail
      go_ret
      exact ⟨by simp [h1], hW⟩
end Go.Proofs.Ytolpcclobmgneaa
