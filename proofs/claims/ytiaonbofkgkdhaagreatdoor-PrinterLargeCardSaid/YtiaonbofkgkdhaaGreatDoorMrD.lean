/-
  AdA EqC AdB AdC AdD AdE, in one text.
-/
import Derived.Test.YtiaonbofkgkdhaaGreatDoorMrC
import Derived.Test.YtiaonbofkgkdhaaGreatDoorMrL
import Derived.Test.YtiaonbofkgkdhaaGreatDoorMrA
import Derived.Deep.RegionHeld3

set_option linter.unusedVariables false
set_option linter.unusedSimpArgs false
namespace Go.Proofs.YtiaonbofkgkdhaaGreatDoor
open Go.RowKit _root_.Nm Lx
set_option maxHeartbeats 8000000 in
set_option maxRecDepth 100000 in
theorem allNames_any (p : Option Addr) (n c : Nat) (L : List ByteArray) (w : World) (h : NRd w p n c L) (hs : ∀ i (hi : i < L.length), (L[i]).size ≤ maxLen) (b : Bool) (hb : b = true ↔ ∀ i (hi : i < L.length), isNm (L[i]).data.toList = true) :
    Calls Tryz.prog 96 #[.slice p n c] w fun e w' => e = .returned (.bool b) ∧ w.grownBy w' none := by
  have hl := h.len
  have hc := SRd.cap h
  have hm := SRd.max h
  have H := hid h
  have HS := hid hs
  have HB := hid hb
  clear h hs hb
  go_enter Tryz.func96, Tryz.ntmps96
  go_wp2_with fail
  go_loopw [7] (fun x wr => ∃ k : Nat, k ≤ n ∧ x = .int .i64 k ∧ w.grownBy wr none ∧ ∀ i (hi : i < L.length), i < k → isNm (L[i]).data.toList = true) (fun x _ => n - (intOf x).toNat)
  case atStart => exact ⟨0, Nat.zero_le _, rfl, grown_refl _ _, fun i _ h => absurd h (Nat.not_lt_zero i)⟩
  case round =>
    obtain ⟨k, hk, rfl, hg, hall⟩ := hrel
    have HALL := hid hall
    clear hall
    by_cases hlt : k < n
    · obtain ⟨bA, oA, rfl, c0⟩ := NRd.at1 (H.out.keep hg) (i := k) (by omega)
      have hsz := HS.out k (by omega)
      obtain ⟨q, hq⟩ : ∃ q, q = isNm (L[k]'(by omega)).data.toList := ⟨_, rfl⟩
      have HI := hid (isName_any (L[k]'(by omega)) _ rfl (by rw [Array.length_toList]; exact hsz) wr)
      rw [← hq] at HI
      have HQ := hid hq
      clear hq hsz
      obtain ⟨d, hd⟩ : ∃ d, d = L[k]'(by omega) := ⟨_, rfl⟩
      rw [← hd] at c0 HI HQ
      have HDD := hid hd
      clear hd
      cases q
      · obtain rfl : b = false := by
          rw [← Bool.not_eq_true, HB.out]
          intro h9
          have h1 := h9 k (by omega)
          rw [← HDD.out, ← HQ.out] at h1
          cases h1
        go_wp2_with (go_at_call 139; refine HI.out.mono ?_; rintro e w1 ⟨rfl, hg1⟩)
        go_ret
        exact ⟨rfl, grown_trans hg hg1⟩
      · go_wp2_with (go_at_call 139; refine HI.out.mono ?_; rintro e w1 ⟨rfl, hg1⟩)
        exact ⟨⟨k + 1, by omega, by go_num, grown_trans hg hg1, fun i hi h => by
          rcases Nat.lt_or_eq_of_le (Nat.le_of_lt_succ h) with h | rfl
          · exact HALL.out i hi h
          · rw [← HDD.out]; exact HQ.out.symm⟩, by simp [intOf]; omega⟩
    · obtain rfl : k = n := by omega
      obtain rfl : b = true := HB.out.2 fun i hi => HALL.out i hi (by omega)
      go_wp2_with fail
      go_ret
      exact ⟨rfl, hg⟩
/-- the sort of the expression of a kind of statements -/
def sortS (k : Int) : Int := if k = 2 then 1 else if k = 3 then 2 else if k = 4 then 3 else if k = 5 then 4 else 0
set_option maxHeartbeats 4000000 in
set_option maxRecDepth 100000 in
theorem sortOf_any (k : Int) (w : World) : Calls Tryz.prog 98 #[.int .i64 k] w fun e w' => e = .returned (.int .i64 (sortS k)) ∧ w.grownBy w' none := by
  unfold sortS
  by_cases h2 : k = 2
  · subst h2
    go_enter Tryz.func98, Tryz.ntmps98
    go_wp2_with fail
    go_ret
    exact ⟨by simp, grown_refl _ _⟩
  by_cases h3 : k = 3
  · subst h3
    go_enter Tryz.func98, Tryz.ntmps98
    go_wp2_with fail
    go_ret
    exact ⟨by simp, grown_refl _ _⟩
  by_cases h4 : k = 4
  · subst h4
    go_enter Tryz.func98, Tryz.ntmps98
    go_wp2_with fail
    go_ret
    exact ⟨by simp, grown_refl _ _⟩
  by_cases h5 : k = 5
  · subst h5
    go_enter Tryz.func98, Tryz.ntmps98
    go_wp2_with fail
    go_ret
    exact ⟨by simp, grown_refl _ _⟩
  go_enter Tryz.func98, Tryz.ntmps98
  go_wp2_with fail
  go_ret
  exact ⟨by simp [h2, h3, h4, h5], grown_refl _ _⟩
set_option maxHeartbeats 4000000 in
set_option maxRecDepth 100000 in
theorem rStmtSort_any (k : Int) (w : World) : Calls Tryz.prog 107 #[.int .i64 k] w fun e w' => e = .returned (.int .i64 (sortS k)) ∧ w.grownBy w' none := by
  unfold sortS
  by_cases h2 : k = 2
  · subst h2
    go_enter Tryz.func107, Tryz.ntmps107
    go_wp2_with fail
    go_ret
    exact ⟨by simp, grown_refl _ _⟩
  by_cases h3 : k = 3
  · subst h3
    go_enter Tryz.func107, Tryz.ntmps107
    go_wp2_with fail
    go_ret
    exact ⟨by simp, grown_refl _ _⟩
  by_cases h4 : k = 4
  · subst h4
    go_enter Tryz.func107, Tryz.ntmps107
    go_wp2_with fail
    go_ret
    exact ⟨by simp, grown_refl _ _⟩
  by_cases h5 : k = 5
  · subst h5
    go_enter Tryz.func107, Tryz.ntmps107
    go_wp2_with fail
    go_ret
    exact ⟨by simp, grown_refl _ _⟩
  go_enter Tryz.func107, Tryz.ntmps107
  go_wp2_with fail
  go_ret
  exact ⟨by simp [h2, h3, h4, h5], grown_refl _ _⟩
end Go.Proofs.YtiaonbofkgkdhaaGreatDoor

set_option linter.unusedVariables false
set_option linter.unusedSimpArgs false
namespace Go.Proofs.YtiaonbofkgkdhaaGreatDoor
open Go.RowKit _root_.Nm
/-- EqualExpr keeps its promise down to a depth -/
def EqOk (m : Nat) : Prop := ∀ (m' : Nat) (cs cs' : List Value) (t t' : Tr) (b : Bool) (w : World), ERd w m cs t → ERd w m' cs' t' → (b = true ↔ EqP m t t') →
  Calls Tryz.prog 140 #[.agg cs.toArray, .agg cs'.toArray] w fun e w' => e = .returned (.bool b) ∧ w.grownBy w' none

set_option maxHeartbeats 8000000 in
set_option maxRecDepth 100000 in
theorem eqFn_any (m m' : Nat) (hIH : EqOk m) (pa pb : Option Addr) (na ca nb cb : Nat) (l l' : List Tr) (b : Bool) (w : World) (hA : ARd w m pa na ca l) (hB : ARd w m' pb nb cb l') (hb : b = true ↔ (l.length = l'.length ∧ ∀ i (hi : i < l.length) (hi' : i < l'.length), EqP m l[i] l'[i])) :
    Calls Tryz.prog 172 #[.slice pa na ca, .slice pb nb cb, .func (.func 140) #[] #[]] w fun e w' => e = .returned (.bool b) ∧ w.grownBy w' none := by
  obtain ⟨⟨hla, hca, hma⟩, _⟩ := id hA
  obtain ⟨⟨hlb, hcb, hmb⟩, _⟩ := id hB
  have IH := hid hIH
  have HA := hid hA
  have HB := hid hB
  have HH := hid hb
  clear hIH hA hB hb
  by_cases hnn : na = nb
  · subst hnn
    go_enter Tryz.func172, Tryz.ntmps172
    go_wp2_with fail
    go_loopw [17] (fun x wr => ∃ k : Nat, k ≤ na ∧ x = .int .i64 k ∧ w.grownBy wr none ∧ ∀ i (hi : i < l.length) (hi' : i < l'.length), i < k → EqP m l[i] l'[i]) (fun x _ => na - (intOf x).toNat)
    case atStart => exact ⟨0, Nat.zero_le _, rfl, grown_refl _ _, fun i _ _ h => absurd h (Nat.not_lt_zero i)⟩
    case round =>
      obtain ⟨k, hk, rfl, hg, hall⟩ := hrel
      have HALL := hid hall
      clear hall
      by_cases hlt : k < na
      · obtain ⟨bA, oA, e1, e2, e3, p1, n1, c1, p2, n2, c2, p3, n3, c3, e7, rfl, hE1, a0, a1, a2, a3, a4, a5, a6⟩ := (HA.out.keep hg).at (i := k) (by omega)
        obtain ⟨bB, oB, x1, x2, x3, q1, m1, d1, q2, m2, d2, q3, m3, d3, x7, rfl, hE2, b0, b1, b2, b3, b4, b5, b6⟩ := (HB.out.keep hg).at (i := k) (by omega)
        have hG1 := World.grownBy_alloc wr (.cells #[.int .i64 e1, .string e2, .bool e3, .slice p1 n1 c1, .slice p2 n2 c2, .slice p3 n3 c3, .int .i64 e7] 43 (0, 0)) none
        have hG2 := World.grownBy_alloc (wr.alloc (.cells #[.int .i64 e1, .string e2, .bool e3, .slice p1 n1 c1, .slice p2 n2 c2, .slice p3 n3 c3, .int .i64 e7] 43 (0, 0))) (.cells #[.int .i64 x1, .string x2, .bool x3, .slice q1 m1 d1, .slice q2 m2 d2, .slice q3 m3 d3, .int .i64 x7] 43 (0, 0)) none
        obtain ⟨bq, hbq⟩ : ∃ bq : Bool, bq = true ↔ EqP m (l[k]'(by omega)) (l'[k]'(by omega)) := ex_bool _
        have HC := hid (IH.out m' _ _ _ _ bq _ (hE1.keep (grown_trans hG1 hG2)) (hE2.keep (grown_trans hG1 hG2)) hbq)
        have HGG := hid (grown_trans hg (grown_trans hG1 hG2))
        have HQ := hid hbq
        replace b0 := hG1.cell b0 (by simp); replace b1 := hG1.cell b1 (by simp); replace b2 := hG1.cell b2 (by simp); replace b3 := hG1.cell b3 (by simp); replace b4 := hG1.cell b4 (by simp); replace b5 := hG1.cell b5 (by simp); replace b6 := hG1.cell b6 (by simp)
        clear hE1 hE2 hG1 hG2 hbq
        obtain ⟨⟨k0, k1, k2, k3, k4, k5, k6⟩, f0, f1, f2, f3, f4, f5, f6⟩ := box7 (blk0 wr (zeroE 43))
        have bx := blk0 (wr.alloc (.cells #[.int .i64 e1, .string e2, .bool e3, .slice p1 n1 c1, .slice p2 n2 c2, .slice p3 n3 c3, .int .i64 e7] 43 (0, 0))) (zeroE 43)
        rw [show (wr.alloc (.cells #[.int .i64 e1, .string e2, .bool e3, .slice p1 n1 c1, .slice p2 n2 c2, .slice p3 n3 c3, .int .i64 e7] 43 (0, 0))).heap.size = wr.heap.size + 1 by simp] at bx
        obtain ⟨⟨j0, j1, j2, j3, j4, j5, j6⟩, g0, g1, g2, g3, g4, g5, g6⟩ := box7 bx
        clear bx
        unfold zeroE at k0 k1 k2 k3 k4 k5 k6 f0 f1 f2 f3 f4 f5 f6 j0 j1 j2 j3 j4 j5 j6 g0 g1 g2 g3 g4 g5 g6
        cases bq
        · obtain rfl : b = false := by
            rw [← Bool.not_eq_true, HH.out]
            rintro ⟨_, h⟩
            have := HQ.out.2 (h k (by omega) (by omega))
            cases this
          go_wp2_with (go_at_call 140; refine HC.out.mono ?_; rintro e w2 ⟨rfl, hg2⟩)
          go_ret
          exact ⟨rfl, grown_trans HGG.out hg2⟩
        · go_wp2_with (go_at_call 140; refine HC.out.mono ?_; rintro e w2 ⟨rfl, hg2⟩)
          exact ⟨⟨k + 1, by omega, by go_num, grown_trans HGG.out hg2, fun i hi hi' h => by
            rcases Nat.lt_or_eq_of_le (Nat.le_of_lt_succ h) with h | rfl
            · exact HALL.out i hi hi' h
            · exact HQ.out.1 trivial⟩, by simp [intOf]; omega⟩
      · obtain rfl : k = na := by omega
        obtain rfl : b = true := HH.out.2 ⟨by omega, fun i hi hi' => HALL.out i hi hi' (by omega)⟩
        go_wp2_with fail
        go_ret
        exact ⟨rfl, hg⟩
  · obtain rfl : b = false := by
      rw [← Bool.not_eq_true, HH.out]
      rintro ⟨h, _⟩
      omega
    have hz : ¬ (na : Int) = (nb : Int) := by omega
    go_enter Tryz.func172, Tryz.ntmps172
    go_wp2_with fail
    go_ret
    exact ⟨rfl, grown_refl _ _⟩

set_option maxHeartbeats 16000000 in
set_option maxRecDepth 100000 in
theorem equalExpr_ok : ∀ m, EqOk m
  | 0 => fun _ _ _ _ _ _ _ h _ _ => h.elim
  | m + 1 => fun m' cs cs' t t' b w hE hE' hb => by
    have IH := equalExpr_ok m
    cases m' with
    | zero => exact hE'.elim
    | succ q =>
    cases t with
    | node h l =>
    cases t' with
    | node h' l' =>
    obtain ⟨e1, e2, e3, p1, n1, c1, p2, n2, c2, p3, n3, c3, e7, rfl⟩ := hE.shape
    obtain ⟨x1, x2, x3, q1, m1, d1, q2, m2, d2, q3, m3, d3, x7, rfl⟩ := hE'.shape
    obtain ⟨⟨r1, r2, r3, -⟩, hn, hd, hA, -⟩ := ARd.of hE
    obtain ⟨⟨s1, s2, s3, -⟩, hn', hd', hA', -⟩ := ARd.of hE'
    obtain ⟨v1, hv1⟩ := ex_bool (e3 = x3 ∧ h.num = h'.num ∧ h.den = h'.den)
    obtain ⟨v2, hv2⟩ := ex_bool (l.length = l'.length ∧ ∀ i (hi : i < l.length) (hi' : i < l'.length), EqP m l[i] l'[i])
    have hbb : b = (decide (e1 = x1) && (decide (e2 = x2) && (v1 && v2))) := by
      rw [Bool.eq_iff_iff, hb, EqP, ← r1, ← r2, ← r3, ← s1, ← s2, ← s3]
      simp only [Bool.and_eq_true, decide_eq_true_eq, hv1, hv2, and_assoc]
    have HR := hid fun w' (hg : w.grownBy w' none) => equalRat_any e3 x3 p1 p2 q1 q2 n1 c1 n2 c2 m1 d1 m2 d2 _ _ _ _ v1 hv1 w' (hn.keep hg) (hd.keep hg) (hn'.keep hg) (hd'.keep hg)
    have HF := hid fun w' (hg : w.grownBy w' none) => eqFn_any m q IH p3 q3 n3 c3 m3 d3 l l' v2 w' (hA.keep hg) (hA'.keep hg) hv2
    subst hbb
    clear hE hE' hb hn hd hA hn' hd' hA' hv1 hv2 r1 r2 r3 s1 s2 s3 IH
    obtain ⟨⟨k0, k1, k2, k3, k4, k5, k6⟩, -⟩ := box7 (blk1 w (.cells #[.int .i64 e1, .string e2, .bool e3, .slice p1 n1 c1, .slice p2 n2 c2, .slice p3 n3 c3, .int .i64 e7] 43 (0, 0)) (.cells #[.int .i64 x1, .string x2, .bool x3, .slice q1 m1 d1, .slice q2 m2 d2, .slice q3 m3 d3, .int .i64 x7] 43 (0, 0)))
    have bx := blk0 (w.alloc (.cells #[.int .i64 e1, .string e2, .bool e3, .slice p1 n1 c1, .slice p2 n2 c2, .slice p3 n3 c3, .int .i64 e7] 43 (0, 0))) (.cells #[.int .i64 x1, .string x2, .bool x3, .slice q1 m1 d1, .slice q2 m2 d2, .slice q3 m3 d3, .int .i64 x7] 43 (0, 0))
    rw [show (w.alloc (.cells #[.int .i64 e1, .string e2, .bool e3, .slice p1 n1 c1, .slice p2 n2 c2, .slice p3 n3 c3, .int .i64 e7] 43 (0, 0))).heap.size = w.heap.size + 1 by simp] at bx
    obtain ⟨⟨j0, j1, j2, j3, j4, j5, j6⟩, -⟩ := box7 bx
    clear bx
    have hW := grown_trans (World.grownBy_alloc w (.cells #[.int .i64 e1, .string e2, .bool e3, .slice p1 n1 c1, .slice p2 n2 c2, .slice p3 n3 c3, .int .i64 e7] 43 (0, 0)) none) (World.grownBy_alloc _ (.cells #[.int .i64 x1, .string x2, .bool x3, .slice q1 m1 d1, .slice q2 m2 d2, .slice q3 m3 d3, .int .i64 x7] 43 (0, 0)) none)
    by_cases h1 : e1 = x1
    · subst h1
      by_cases h2 : e2 = x2
      · subst h2
        cases v1
        all_goals
          go_enter Tryz.func140, Tryz.ntmps140
          go_upto_region 1 with fail
          generalize ((w.alloc _).alloc _) = w0 at *
          go_wp2_with (first
            | (go_at_call 171; refine (HR.out _ hW).mono ?_; rintro e w1 ⟨rfl, hg⟩; replace hW := grown_trans hW hg; replace k0 := hg.cell k0 (by simp); replace k1 := hg.cell k1 (by simp); replace k2 := hg.cell k2 (by simp); replace k3 := hg.cell k3 (by simp); replace k4 := hg.cell k4 (by simp); replace k5 := hg.cell k5 (by simp); replace k6 := hg.cell k6 (by simp); replace j0 := hg.cell j0 (by simp); replace j1 := hg.cell j1 (by simp); replace j2 := hg.cell j2 (by simp); replace j3 := hg.cell j3 (by simp); replace j4 := hg.cell j4 (by simp); replace j5 := hg.cell j5 (by simp); replace j6 := hg.cell j6 (by simp); clear HR hg)
            | (go_at_call 172; refine (HF.out _ hW).mono ?_; rintro e w1 ⟨rfl, hg⟩; replace hW := grown_trans hW hg; replace k0 := hg.cell k0 (by simp); replace k1 := hg.cell k1 (by simp); replace k2 := hg.cell k2 (by simp); replace k3 := hg.cell k3 (by simp); replace k4 := hg.cell k4 (by simp); replace k5 := hg.cell k5 (by simp); replace k6 := hg.cell k6 (by simp); replace j0 := hg.cell j0 (by simp); replace j1 := hg.cell j1 (by simp); replace j2 := hg.cell j2 (by simp); replace j3 := hg.cell j3 (by simp); replace j4 := hg.cell j4 (by simp); replace j5 := hg.cell j5 (by simp); replace j6 := hg.cell j6 (by simp); clear HF hg))
          go_ret
          exact ⟨by simp, hW⟩
      · go_enter Tryz.func140, Tryz.ntmps140
        go_upto_region 1 with fail
        generalize ((w.alloc _).alloc _) = w0 at *
        have hz : (e2.toList == x2.toList) = false := by
          rw [beq_eq_false_iff_ne]
          exact fun h => h2 (bytes_eq.1 h)
        go_wp2_with fail
        go_ret
        exact ⟨by simp [h2], hW⟩
    · go_enter Tryz.func140, Tryz.ntmps140
      go_upto_region 1 with fail
      generalize ((w.alloc _).alloc _) = w0 at *
      have hz := h1
      go_wp2_with fail
      go_ret
      exact ⟨by simp [h1], hW⟩
end Go.Proofs.YtiaonbofkgkdhaaGreatDoor

set_option linter.unusedVariables false
set_option linter.unusedSimpArgs false
namespace Go.Proofs.YtiaonbofkgkdhaaGreatDoor
open Go.RowKit _root_.Nm Lx
theorem box10' {w : World} {G : Nat} {a b c d e f g h i j : Value} {T : TypeId} (hb : w.heap[G]? = some (.cells #[a, b, c, d, e, f, g, h, i, j] T (0, 0))) :
    (w.cell? ⟨G, 0, none⟩ = some a ∧ w.cell? ⟨G, 1, none⟩ = some b ∧ w.cell? ⟨G, 2, none⟩ = some c ∧ w.cell? ⟨G, 3, none⟩ = some d ∧ w.cell? ⟨G, 4, none⟩ = some e ∧ w.cell? ⟨G, 5, none⟩ = some f ∧ w.cell? ⟨G, 6, none⟩ = some g ∧ w.cell? ⟨G, 7, none⟩ = some h ∧ w.cell? ⟨G, 8, none⟩ = some i ∧ w.cell? ⟨G, 9, none⟩ = some j) ∧
    (∀ o, w.frozen? ⟨G, o, none⟩ = false) := by
  have k := fun i => cell_of_row w G i _ _ _ hb
  have k0 := k 0
  have k1 := k 1
  have k2 := k 2
  have k3 := k 3
  have k4 := k 4
  have k5 := k 5
  have k6 := k 6
  have k7 := k 7
  have k8 := k 8
  have k9 := k 9
  simp at k0 k1 k2 k3 k4 k5 k6 k7 k8 k9
  exact ⟨⟨k0, k1, k2, k3, k4, k5, k6, k7, k8, k9⟩, fun o => frozen_of_row w G o _ _ hb⟩
/-- whether a kind of statements has this number of names -/
def cntS (k : Int) (n : Nat) : Bool := if k = 1 then decide (0 < n) else if k = 5 then decide (n = 0) else decide (n = 1)
set_option maxHeartbeats 8000000 in
set_option maxRecDepth 100000 in
theorem rightCount_any (k : Int) (pn : Option Addr) (nn cn : Nat) (e1 : Int) (e2 : ByteArray) (e3 : Bool) (p1 : Option Addr) (n1 c1 : Nat) (p2 : Option Addr) (n2 c2 : Nat) (p3 : Option Addr) (n3 c3 : Nat) (e7 o : Int) (w : World) :
    Calls Tryz.prog 95 #[.agg #[.int .i64 k, .slice pn nn cn, .int .i64 e1, .string e2, .bool e3, .slice p1 n1 c1, .slice p2 n2 c2, .slice p3 n3 c3, .int .i64 e7, .int .i64 o]] w fun e w' => e = .returned (.bool (cntS k nn)) ∧ w.grownBy w' none := by
  have hW := World.grownBy_alloc w (.cells #[.int .i64 k, .slice pn nn cn, .int .i64 e1, .string e2, .bool e3, .slice p1 n1 c1, .slice p2 n2 c2, .slice p3 n3 c3, .int .i64 e7, .int .i64 o] 49 (0, 0)) none
  obtain ⟨⟨k0, k1, -⟩, -⟩ := box10' (blk0 w (.cells #[.int .i64 k, .slice pn nn cn, .int .i64 e1, .string e2, .bool e3, .slice p1 n1 c1, .slice p2 n2 c2, .slice p3 n3 c3, .int .i64 e7, .int .i64 o] 49 (0, 0)))
  unfold cntS
  have hA : ((nn : Int) == 0) = decide (nn = 0) := by rw [Bool.eq_iff_iff]; simp
  have hB : ((nn : Int) == 1) = decide (nn = 1) := by rw [Bool.eq_iff_iff]; simp; omega
  have HA := hid hA
  have HB := hid hB
  clear hA hB
  by_cases h1 : k = 1
  · subst h1
    go_enter Tryz.func95, Tryz.ntmps95
    go_upto_region 1 with fail
    generalize (w.alloc _) = w0 at *
    go_wp2_with fail
    go_ret
    exact ⟨by simp, hW⟩
  by_cases h5 : k = 5
  · subst h5
    go_enter Tryz.func95, Tryz.ntmps95
    go_upto_region 1 with fail
    generalize (w.alloc _) = w0 at *
    go_wp2_with fail
    go_ret
    exact ⟨by simp [HA.out], hW⟩
  · go_enter Tryz.func95, Tryz.ntmps95
    go_upto_region 1 with fail
    generalize (w.alloc _) = w0 at *
    go_wp2_with fail
    go_ret
    exact ⟨by simp [h1, h5, HB.out], hW⟩
/-- the zero value, as a tree -/
def zeroT : Tr := .node ⟨0, ⟨#[]⟩, false, [], [], 0⟩ []
theorem zeroT_rd (w : World) : ERd w 1 [.int .i64 0, .string ⟨#[]⟩, .bool false, .slice none 0 0, .slice none 0 0, .slice none 0 0, .int .i64 0] zeroT :=
  ⟨none, 0, 0, none, 0, 0, none, 0, 0, rfl, IRd.nil w _, IRd.nil w _, ⟨rfl, Nat.le_refl _, by omega, by decide⟩, fun i hi => absurd hi (Nat.not_lt_zero i)⟩
set_option maxHeartbeats 8000000 in
set_option maxRecDepth 100000 in
theorem checkNone_any (m : Nat) (cs : List Value) (t : Tr) (b : Bool) (hb : b = true ↔ EqP m t zeroT) (w : World) (hE : ERd w m cs t) :
    Calls Tryz.prog 97 #[.agg cs.toArray] w fun e w' => e = .returned (.int .i64 (if b = true then 0 else 1)) ∧ w.grownBy w' none := by
  obtain ⟨e1, e2, e3, p1, n1, c1, p2, n2, c2, p3, n3, c3, e7, rfl⟩ := hE.shape
  have HQ := hid fun w' (hg : w.grownBy w' none) => equalExpr_ok m 1 _ _ t zeroT b w' (hE.keep hg) (zeroT_rd w') hb
  clear hE hb
  have hW := World.grownBy_alloc w (.cells #[.int .i64 e1, .string e2, .bool e3, .slice p1 n1 c1, .slice p2 n2 c2, .slice p3 n3 c3, .int .i64 e7] 43 (0, 0)) none
  obtain ⟨⟨k0, k1, k2, k3, k4, k5, k6⟩, -⟩ := box7 (blk0 w (.cells #[.int .i64 e1, .string e2, .bool e3, .slice p1 n1 c1, .slice p2 n2 c2, .slice p3 n3 c3, .int .i64 e7] 43 (0, 0)))
  cases b
  all_goals
    go_enter Tryz.func97, Tryz.ntmps97
    go_upto_region 1 with fail
    generalize (w.alloc _) = w0 at *
    go_wp2_with (go_at_call 140; refine (HQ.out _ hW).mono ?_; rintro e w1 ⟨rfl, hg⟩; replace hW := grown_trans hW hg)
    go_ret
    exact ⟨by simp, hW⟩
end Go.Proofs.YtiaonbofkgkdhaaGreatDoor

set_option linter.unusedVariables false
set_option linter.unusedSimpArgs false
namespace Go.Proofs.YtiaonbofkgkdhaaGreatDoor
open Go.RowKit _root_.Nm Lx
/-- the error of a statement: bn: its names are names; z: its expression is zero; X: the error of its expression -/
def stE (k : Int) (n : Nat) (bn z : Bool) (e1 X : Int) : Int :=
  if k < 1 ∨ 5 < k then 8 else if cntS k n = false then 1 else if bn = false then 6 else if k = 1 then (if z = true then 0 else 1) else if e1 = 1 then 8 else X
set_option maxHeartbeats 16000000 in
set_option maxRecDepth 100000 in
theorem checkStmt_n (k : Int) (pn : Option Addr) (nn cn : Nat) (e1 : Int) (e2 : ByteArray) (e3 : Bool) (p1 : Option Addr) (n1 c1 : Nat) (p2 : Option Addr) (n2 c2 : Nat) (p3 : Option Addr) (n3 c3 : Nat) (e7 o : Int) (bn z : Bool) (X : Int) (w : World)
    (HN : ∀ W, w.grownBy W none → Calls Tryz.prog 96 #[.slice pn nn cn] W fun e w' => e = .returned (.bool bn) ∧ W.grownBy w' none)
    (HZ : ∀ W, w.grownBy W none → Calls Tryz.prog 97 #[.agg #[.int .i64 e1, .string e2, .bool e3, .slice p1 n1 c1, .slice p2 n2 c2, .slice p3 n3 c3, .int .i64 e7]] W fun e w' => e = .returned (.int .i64 (if z = true then 0 else 1)) ∧ W.grownBy w' none)
    (HX : ∀ W, w.grownBy W none → Calls Tryz.prog 30 #[.agg #[.int .i64 e1, .string e2, .bool e3, .slice p1 n1 c1, .slice p2 n2 c2, .slice p3 n3 c3, .int .i64 e7], .int .i64 (sortS k)] W fun e w' => e = .returned (.int .i64 X) ∧ W.grownBy w' none) :
    Calls Tryz.prog 54 #[.agg #[.int .i64 k, .slice pn nn cn, .int .i64 e1, .string e2, .bool e3, .slice p1 n1 c1, .slice p2 n2 c2, .slice p3 n3 c3, .int .i64 e7, .int .i64 o]] w fun e w' => e = .returned (.int .i64 (stE k nn bn z e1 X)) ∧ w.grownBy w' none := by
  replace HN := hid HN
  replace HZ := hid HZ
  replace HX := hid HX
  have HC : Hid (∀ W, w.grownBy W none → _) := hid fun W _ => rightCount_any k pn nn cn e1 e2 e3 p1 n1 c1 p2 n2 c2 p3 n3 c3 e7 o W
  have HS : Hid (∀ W, w.grownBy W none → _) := hid fun W _ => sortOf_any k W
  obtain ⟨ct, hct⟩ : ∃ b, b = cntS k nn := ⟨_, rfl⟩
  obtain ⟨sk, hsk⟩ : ∃ b, b = sortS k := ⟨_, rfl⟩
  unfold stE
  rw [← hct] at HC ⊢
  rw [← hsk] at HS HX
  clear hct hsk
  have hW := World.grownBy_alloc w (.cells #[.int .i64 k, .slice pn nn cn, .int .i64 e1, .string e2, .bool e3, .slice p1 n1 c1, .slice p2 n2 c2, .slice p3 n3 c3, .int .i64 e7, .int .i64 o] 49 (0, 0)) none
  obtain ⟨⟨k0, k1, k2, k3, k4, k5, k6, k7, k8, k9⟩, -⟩ := box10' (blk0 w (.cells #[.int .i64 k, .slice pn nn cn, .int .i64 e1, .string e2, .bool e3, .slice p1 n1 c1, .slice p2 n2 c2, .slice p3 n3 c3, .int .i64 e7, .int .i64 o] 49 (0, 0)))
  by_cases h1 : k < 1
  · go_enter Tryz.func54, Tryz.ntmps54
    go_upto_region 1 with fail
    generalize (w.alloc _) = w0 at *
    go_wp2_with fail
    go_ret
    exact ⟨by simp [h1], hW⟩
  by_cases h2 : 5 < k
  · go_enter Tryz.func54, Tryz.ntmps54
    go_upto_region 1 with fail
    generalize (w.alloc _) = w0 at *
    go_wp2_with fail
    go_ret
    exact ⟨by simp [h2], hW⟩
  have HOUT := hid (show ¬ (k < 1 ∨ 5 < k) by omega)
  rw [if_neg HOUT.out]
  cases ct
  · go_enter Tryz.func54, Tryz.ntmps54
    go_upto_region 1 with fail
    generalize (w.alloc _) = w0 at *
    go_wp2_with (first | (go_at_call 95; (first | refine (HC.out _ hW).mono ?_ | refine (HC.out _ (grown_trans hW (grown_drew _ none))).mono ?_); rintro e w1 ⟨rfl, hg⟩; (first | replace hW := grown_trans hW hg | replace hW := grown_trans (grown_trans hW (grown_drew _ none)) hg); replace k0 := hg.cell k0 (by simp); replace k1 := hg.cell k1 (by simp); replace k2 := hg.cell k2 (by simp); replace k3 := hg.cell k3 (by simp); replace k4 := hg.cell k4 (by simp); replace k5 := hg.cell k5 (by simp); replace k6 := hg.cell k6 (by simp); replace k7 := hg.cell k7 (by simp); replace k8 := hg.cell k8 (by simp); clear hg) | (go_at_call 96; (first | refine (HN.out _ hW).mono ?_ | refine (HN.out _ (grown_trans hW (grown_drew _ none))).mono ?_); rintro e w1 ⟨rfl, hg⟩; (first | replace hW := grown_trans hW hg | replace hW := grown_trans (grown_trans hW (grown_drew _ none)) hg); replace k0 := hg.cell k0 (by simp); replace k1 := hg.cell k1 (by simp); replace k2 := hg.cell k2 (by simp); replace k3 := hg.cell k3 (by simp); replace k4 := hg.cell k4 (by simp); replace k5 := hg.cell k5 (by simp); replace k6 := hg.cell k6 (by simp); replace k7 := hg.cell k7 (by simp); replace k8 := hg.cell k8 (by simp); clear hg) | (go_at_call 97; (first | refine (HZ.out _ hW).mono ?_ | refine (HZ.out _ (grown_trans hW (grown_drew _ none))).mono ?_); rintro e w1 ⟨rfl, hg⟩; (first | replace hW := grown_trans hW hg | replace hW := grown_trans (grown_trans hW (grown_drew _ none)) hg); replace k0 := hg.cell k0 (by simp); replace k1 := hg.cell k1 (by simp); replace k2 := hg.cell k2 (by simp); replace k3 := hg.cell k3 (by simp); replace k4 := hg.cell k4 (by simp); replace k5 := hg.cell k5 (by simp); replace k6 := hg.cell k6 (by simp); replace k7 := hg.cell k7 (by simp); replace k8 := hg.cell k8 (by simp); clear hg))
    go_ret
    exact ⟨by simp, hW⟩
  cases bn
  · go_enter Tryz.func54, Tryz.ntmps54
    go_upto_region 1 with fail
    generalize (w.alloc _) = w0 at *
    go_wp2_with (first | (go_at_call 95; (first | refine (HC.out _ hW).mono ?_ | refine (HC.out _ (grown_trans hW (grown_drew _ none))).mono ?_); rintro e w1 ⟨rfl, hg⟩; (first | replace hW := grown_trans hW hg | replace hW := grown_trans (grown_trans hW (grown_drew _ none)) hg); replace k0 := hg.cell k0 (by simp); replace k1 := hg.cell k1 (by simp); replace k2 := hg.cell k2 (by simp); replace k3 := hg.cell k3 (by simp); replace k4 := hg.cell k4 (by simp); replace k5 := hg.cell k5 (by simp); replace k6 := hg.cell k6 (by simp); replace k7 := hg.cell k7 (by simp); replace k8 := hg.cell k8 (by simp); clear hg) | (go_at_call 96; (first | refine (HN.out _ hW).mono ?_ | refine (HN.out _ (grown_trans hW (grown_drew _ none))).mono ?_); rintro e w1 ⟨rfl, hg⟩; (first | replace hW := grown_trans hW hg | replace hW := grown_trans (grown_trans hW (grown_drew _ none)) hg); replace k0 := hg.cell k0 (by simp); replace k1 := hg.cell k1 (by simp); replace k2 := hg.cell k2 (by simp); replace k3 := hg.cell k3 (by simp); replace k4 := hg.cell k4 (by simp); replace k5 := hg.cell k5 (by simp); replace k6 := hg.cell k6 (by simp); replace k7 := hg.cell k7 (by simp); replace k8 := hg.cell k8 (by simp); clear hg) | (go_at_call 97; (first | refine (HZ.out _ hW).mono ?_ | refine (HZ.out _ (grown_trans hW (grown_drew _ none))).mono ?_); rintro e w1 ⟨rfl, hg⟩; (first | replace hW := grown_trans hW hg | replace hW := grown_trans (grown_trans hW (grown_drew _ none)) hg); replace k0 := hg.cell k0 (by simp); replace k1 := hg.cell k1 (by simp); replace k2 := hg.cell k2 (by simp); replace k3 := hg.cell k3 (by simp); replace k4 := hg.cell k4 (by simp); replace k5 := hg.cell k5 (by simp); replace k6 := hg.cell k6 (by simp); replace k7 := hg.cell k7 (by simp); replace k8 := hg.cell k8 (by simp); clear hg))
    go_ret
    exact ⟨by simp, hW⟩
  by_cases h3 : k = 1
  · subst h3
    cases z
    all_goals
      go_enter Tryz.func54, Tryz.ntmps54
      go_upto_region 1 with fail
      generalize (w.alloc _) = w0 at *
      go_wp2_with (first | (go_at_call 95; (first | refine (HC.out _ hW).mono ?_ | refine (HC.out _ (grown_trans hW (grown_drew _ none))).mono ?_); rintro e w1 ⟨rfl, hg⟩; (first | replace hW := grown_trans hW hg | replace hW := grown_trans (grown_trans hW (grown_drew _ none)) hg); replace k0 := hg.cell k0 (by simp); replace k1 := hg.cell k1 (by simp); replace k2 := hg.cell k2 (by simp); replace k3 := hg.cell k3 (by simp); replace k4 := hg.cell k4 (by simp); replace k5 := hg.cell k5 (by simp); replace k6 := hg.cell k6 (by simp); replace k7 := hg.cell k7 (by simp); replace k8 := hg.cell k8 (by simp); clear hg) | (go_at_call 96; (first | refine (HN.out _ hW).mono ?_ | refine (HN.out _ (grown_trans hW (grown_drew _ none))).mono ?_); rintro e w1 ⟨rfl, hg⟩; (first | replace hW := grown_trans hW hg | replace hW := grown_trans (grown_trans hW (grown_drew _ none)) hg); replace k0 := hg.cell k0 (by simp); replace k1 := hg.cell k1 (by simp); replace k2 := hg.cell k2 (by simp); replace k3 := hg.cell k3 (by simp); replace k4 := hg.cell k4 (by simp); replace k5 := hg.cell k5 (by simp); replace k6 := hg.cell k6 (by simp); replace k7 := hg.cell k7 (by simp); replace k8 := hg.cell k8 (by simp); clear hg) | (go_at_call 97; (first | refine (HZ.out _ hW).mono ?_ | refine (HZ.out _ (grown_trans hW (grown_drew _ none))).mono ?_); rintro e w1 ⟨rfl, hg⟩; (first | replace hW := grown_trans hW hg | replace hW := grown_trans (grown_trans hW (grown_drew _ none)) hg); replace k0 := hg.cell k0 (by simp); replace k1 := hg.cell k1 (by simp); replace k2 := hg.cell k2 (by simp); replace k3 := hg.cell k3 (by simp); replace k4 := hg.cell k4 (by simp); replace k5 := hg.cell k5 (by simp); replace k6 := hg.cell k6 (by simp); replace k7 := hg.cell k7 (by simp); replace k8 := hg.cell k8 (by simp); clear hg))
      go_ret
      exact ⟨by simp, hW⟩
  by_cases h4 : e1 = 1
  · subst h4
    go_enter Tryz.func54, Tryz.ntmps54
    go_upto_region 1 with fail
    generalize (w.alloc _) = w0 at *
    go_wp2_with (first | (go_at_call 95; (first | refine (HC.out _ hW).mono ?_ | refine (HC.out _ (grown_trans hW (grown_drew _ none))).mono ?_); rintro e w1 ⟨rfl, hg⟩; (first | replace hW := grown_trans hW hg | replace hW := grown_trans (grown_trans hW (grown_drew _ none)) hg); replace k0 := hg.cell k0 (by simp); replace k1 := hg.cell k1 (by simp); replace k2 := hg.cell k2 (by simp); replace k3 := hg.cell k3 (by simp); replace k4 := hg.cell k4 (by simp); replace k5 := hg.cell k5 (by simp); replace k6 := hg.cell k6 (by simp); replace k7 := hg.cell k7 (by simp); replace k8 := hg.cell k8 (by simp); clear hg) | (go_at_call 96; (first | refine (HN.out _ hW).mono ?_ | refine (HN.out _ (grown_trans hW (grown_drew _ none))).mono ?_); rintro e w1 ⟨rfl, hg⟩; (first | replace hW := grown_trans hW hg | replace hW := grown_trans (grown_trans hW (grown_drew _ none)) hg); replace k0 := hg.cell k0 (by simp); replace k1 := hg.cell k1 (by simp); replace k2 := hg.cell k2 (by simp); replace k3 := hg.cell k3 (by simp); replace k4 := hg.cell k4 (by simp); replace k5 := hg.cell k5 (by simp); replace k6 := hg.cell k6 (by simp); replace k7 := hg.cell k7 (by simp); replace k8 := hg.cell k8 (by simp); clear hg) | (go_at_call 97; (first | refine (HZ.out _ hW).mono ?_ | refine (HZ.out _ (grown_trans hW (grown_drew _ none))).mono ?_); rintro e w1 ⟨rfl, hg⟩; (first | replace hW := grown_trans hW hg | replace hW := grown_trans (grown_trans hW (grown_drew _ none)) hg); replace k0 := hg.cell k0 (by simp); replace k1 := hg.cell k1 (by simp); replace k2 := hg.cell k2 (by simp); replace k3 := hg.cell k3 (by simp); replace k4 := hg.cell k4 (by simp); replace k5 := hg.cell k5 (by simp); replace k6 := hg.cell k6 (by simp); replace k7 := hg.cell k7 (by simp); replace k8 := hg.cell k8 (by simp); clear hg))
    go_ret
    exact ⟨by simp [h3], hW⟩
  · go_enter Tryz.func54, Tryz.ntmps54
    go_upto_region 1 with fail
    generalize (w.alloc _) = w0 at *
    go_upto_region 11 with (first | (go_at_call 95; (first | refine (HC.out _ hW).mono ?_ | refine (HC.out _ (grown_trans hW (grown_drew _ none))).mono ?_); rintro e w1 ⟨rfl, hg⟩; (first | replace hW := grown_trans hW hg | replace hW := grown_trans (grown_trans hW (grown_drew _ none)) hg); replace k0 := hg.cell k0 (by simp); replace k1 := hg.cell k1 (by simp); replace k2 := hg.cell k2 (by simp); replace k3 := hg.cell k3 (by simp); replace k4 := hg.cell k4 (by simp); replace k5 := hg.cell k5 (by simp); replace k6 := hg.cell k6 (by simp); replace k7 := hg.cell k7 (by simp); replace k8 := hg.cell k8 (by simp); clear hg) | (go_at_call 96; (first | refine (HN.out _ hW).mono ?_ | refine (HN.out _ (grown_trans hW (grown_drew _ none))).mono ?_); rintro e w1 ⟨rfl, hg⟩; (first | replace hW := grown_trans hW hg | replace hW := grown_trans (grown_trans hW (grown_drew _ none)) hg); replace k0 := hg.cell k0 (by simp); replace k1 := hg.cell k1 (by simp); replace k2 := hg.cell k2 (by simp); replace k3 := hg.cell k3 (by simp); replace k4 := hg.cell k4 (by simp); replace k5 := hg.cell k5 (by simp); replace k6 := hg.cell k6 (by simp); replace k7 := hg.cell k7 (by simp); replace k8 := hg.cell k8 (by simp); clear hg) | (go_at_call 97; (first | refine (HZ.out _ hW).mono ?_ | refine (HZ.out _ (grown_trans hW (grown_drew _ none))).mono ?_); rintro e w1 ⟨rfl, hg⟩; (first | replace hW := grown_trans hW hg | replace hW := grown_trans (grown_trans hW (grown_drew _ none)) hg); replace k0 := hg.cell k0 (by simp); replace k1 := hg.cell k1 (by simp); replace k2 := hg.cell k2 (by simp); replace k3 := hg.cell k3 (by simp); replace k4 := hg.cell k4 (by simp); replace k5 := hg.cell k5 (by simp); replace k6 := hg.cell k6 (by simp); replace k7 := hg.cell k7 (by simp); replace k8 := hg.cell k8 (by simp); clear hg))
    go_region_held3 (fun w' => w'.cell? ⟨w.heap.size, 0, none⟩ = some (.int .i64 k) ∧ w'.cell? ⟨w.heap.size, 1, none⟩ = some (.slice pn nn cn) ∧ w'.cell? ⟨w.heap.size, 2, none⟩ = some (.int .i64 e1) ∧ w'.cell? ⟨w.heap.size, 3, none⟩ = some (.string e2) ∧ w'.cell? ⟨w.heap.size, 4, none⟩ = some (.bool e3) ∧ w'.cell? ⟨w.heap.size, 5, none⟩ = some (.slice p1 n1 c1) ∧ w'.cell? ⟨w.heap.size, 6, none⟩ = some (.slice p2 n2 c2) ∧ w'.cell? ⟨w.heap.size, 7, none⟩ = some (.slice p3 n3 c3) ∧ w'.cell? ⟨w.heap.size, 8, none⟩ = some (.int .i64 e7) ∧ w.grownBy w' none) ((try go_split_ands) <;> (repeat' apply And.intro) <;> (first | (with_reducible assumption) | (with_reducible refine (grown_drew _ none).cell ?_ (by simp); with_reducible assumption) | (with_reducible refine grown_trans ?_ (grown_drew _ none); with_reducible assumption))) (first | (go_at_call 98; (first | refine (HS.out _ hW).mono ?_ | refine (HS.out _ (grown_trans hW (grown_drew _ none))).mono ?_); rintro e w1 ⟨rfl, hg⟩; (first | replace hW := grown_trans hW hg | replace hW := grown_trans (grown_trans hW (grown_drew _ none)) hg); replace k0 := hg.cell k0 (by simp); replace k1 := hg.cell k1 (by simp); replace k2 := hg.cell k2 (by simp); replace k3 := hg.cell k3 (by simp); replace k4 := hg.cell k4 (by simp); replace k5 := hg.cell k5 (by simp); replace k6 := hg.cell k6 (by simp); replace k7 := hg.cell k7 (by simp); replace k8 := hg.cell k8 (by simp); clear hg) | (go_at_call 30; (first | refine (HX.out _ hW).mono ?_ | refine (HX.out _ (grown_trans hW (grown_drew _ none))).mono ?_); rintro e w1 ⟨rfl, hg⟩; (first | replace hW := grown_trans hW hg | replace hW := grown_trans (grown_trans hW (grown_drew _ none)) hg); replace k0 := hg.cell k0 (by simp); replace k1 := hg.cell k1 (by simp); replace k2 := hg.cell k2 (by simp); replace k3 := hg.cell k3 (by simp); replace k4 := hg.cell k4 (by simp); replace k5 := hg.cell k5 (by simp); replace k6 := hg.cell k6 (by simp); replace k7 := hg.cell k7 (by simp); replace k8 := hg.cell k8 (by simp); clear hg))
    go_wp2_with fail
    go_ret
    exact ⟨by simp [h3, h4], by first | exact hW | exact grown_trans hW (grown_drew _ none)⟩
end Go.Proofs.YtiaonbofkgkdhaaGreatDoor

set_option linter.unusedVariables false
set_option linter.unusedSimpArgs false
namespace Go.Proofs.YtiaonbofkgkdhaaGreatDoor
open Go.RowKit _root_.Nm Lx
set_option maxHeartbeats 16000000 in
set_option maxRecDepth 100000 in
theorem rCheckStmt_n (k : Int) (pn : Option Addr) (nn cn : Nat) (e1 : Int) (e2 : ByteArray) (e3 : Bool) (p1 : Option Addr) (n1 c1 : Nat) (p2 : Option Addr) (n2 c2 : Nat) (p3 : Option Addr) (n3 c3 : Nat) (e7 o : Int) (bn z : Bool) (X : Int) (L : List ByteArray) (w : World)
    (hL : NRd w pn nn cn L) (hLS : ∀ i (hi : i < L.length), (L[i]).size ≤ maxLen) (hbn : bn = true ↔ ∀ i (hi : i < L.length), isNm (L[i]).data.toList = true)
    (HZ : ∀ W, w.grownBy W none → Calls Tryz.prog 106 #[.agg #[.int .i64 e1, .string e2, .bool e3, .slice p1 n1 c1, .slice p2 n2 c2, .slice p3 n3 c3, .int .i64 e7]] W fun e w' => e = .returned (.bool z) ∧ W.grownBy w' none)
    (HX : ∀ W, w.grownBy W none → Calls Tryz.prog 33 #[.agg #[.int .i64 e1, .string e2, .bool e3, .slice p1 n1 c1, .slice p2 n2 c2, .slice p3 n3 c3, .int .i64 e7], .int .i64 (sortS k)] W fun e w' => e = .returned (.int .i64 X) ∧ W.grownBy w' none) :
    Calls Tryz.prog 57 #[.agg #[.int .i64 k, .slice pn nn cn, .int .i64 e1, .string e2, .bool e3, .slice p1 n1 c1, .slice p2 n2 c2, .slice p3 n3 c3, .int .i64 e7, .int .i64 o]] w fun e w' => e = .returned (.int .i64 (stE k nn bn z e1 X)) ∧ w.grownBy w' none := by
  have hln := hL.len
  have hlc := SRd.cap hL
  have hlm := SRd.max hL
  replace HZ := hid HZ
  replace HX := hid HX
  have HS : Hid (∀ W, w.grownBy W none → _) := hid fun W _ => rStmtSort_any k W
  have HL := hid hL
  have HLS := hid hLS
  have HBN := hid hbn
  clear hL hLS hbn
  obtain ⟨sk, hsk⟩ : ∃ b, b = sortS k := ⟨_, rfl⟩
  unfold stE
  rw [← hsk] at HS HX
  clear hsk
  have hW := World.grownBy_alloc w (.cells #[.int .i64 k, .slice pn nn cn, .int .i64 e1, .string e2, .bool e3, .slice p1 n1 c1, .slice p2 n2 c2, .slice p3 n3 c3, .int .i64 e7, .int .i64 o] 49 (0, 0)) none
  obtain ⟨⟨k0, k1, k2, k3, k4, k5, k6, k7, k8, k9⟩, -⟩ := box10' (blk0 w (.cells #[.int .i64 k, .slice pn nn cn, .int .i64 e1, .string e2, .bool e3, .slice p1 n1 c1, .slice p2 n2 c2, .slice p3 n3 c3, .int .i64 e7, .int .i64 o] 49 (0, 0)))
  by_cases h1 : k < 1
  · go_enter Tryz.func57, Tryz.ntmps57
    go_upto_region 1 with fail
    generalize (w.alloc _) = w0 at *
    go_wp2_with fail
    go_ret
    exact ⟨by simp [h1], hW⟩
  by_cases h2 : 5 < k
  · go_enter Tryz.func57, Tryz.ntmps57
    go_upto_region 1 with fail
    generalize (w.alloc _) = w0 at *
    go_wp2_with fail
    go_ret
    exact ⟨by simp [h2], hW⟩
  have HOUT := hid (show ¬ (k < 1 ∨ 5 < k) by omega)
  rw [if_neg HOUT.out]
  by_cases hk1 : k = 1
  · subst hk1
    by_cases hn : nn = 0
    · subst hn
      go_enter Tryz.func57, Tryz.ntmps57
      go_upto_region 1 with fail
      generalize (w.alloc _) = w0 at *
      go_wp2_with fail
      go_ret
      exact ⟨by simp [cntS], hW⟩
    · have hz0 : ((nn : Int) == 0) = false := by simpa using hn
      have HC : Hid (cntS 1 nn = true) := hid (by unfold cntS; simp; omega)
      rw [HC.out]
      clear HOUT h1 h2
      go_enter Tryz.func57, Tryz.ntmps57
      go_upto_region 1 with fail
      generalize (w.alloc _) = w0 at *
      go_wp2_with fail
      clear hz0
      have HW0 := hid hW
      have Hk0 := hid k0; have Hk1 := hid k1; have Hk2 := hid k2; have Hk3 := hid k3; have Hk4 := hid k4; have Hk5 := hid k5; have Hk6 := hid k6; have Hk7 := hid k7; have Hk8 := hid k8
      clear hW k0 k1 k2 k3 k4 k5 k6 k7 k8
      go_loopw [48] (fun y wr => ∃ i : Nat, i ≤ nn ∧ y = .int .i64 i ∧ w0.grownBy wr none ∧ ∀ j (hj : j < L.length), j < i → isNm (L[j]).data.toList = true) (fun y _ => nn - (intOf y).toNat)
      case atStart => exact ⟨0, Nat.zero_le _, rfl, grown_refl _ _, fun j _ h => absurd h (Nat.not_lt_zero j)⟩
      case round =>
        obtain ⟨i, hi, rfl, hg, hall⟩ := hrel
        have HALL := hid hall
        clear hall
        by_cases hlt : i < nn
        · obtain ⟨bA, oA, rfl, c0⟩ := NRd.at1 (HL.out.keep (grown_trans HW0.out hg)) (i := i) (by omega)
          have hsz := HLS.out i (by omega)
          obtain ⟨q, hq⟩ : ∃ q, q = isNm (L[i]'(by omega)).data.toList := ⟨_, rfl⟩
          have HI := hid (rIsName_any (L[i]'(by omega)) _ rfl wr)
          rw [← hq] at HI
          have HQ := hid hq
          clear hq hsz
          obtain ⟨d, hd⟩ : ∃ d, d = L[i]'(by omega) := ⟨_, rfl⟩
          rw [← hd] at c0 HI HQ
          have HDD := hid hd
          clear hd
          cases q
          · obtain rfl : bn = false := by
              rw [← Bool.not_eq_true, HBN.out]
              intro h9
              have h1 := h9 i (by omega)
              rw [← HDD.out, ← HQ.out] at h1
              cases h1
            go_wp2_with (go_at_call 105; refine HI.out.mono ?_; rintro e w1 ⟨rfl, hg1⟩)
            go_ret
            exact ⟨by simp, grown_trans HW0.out (grown_trans hg hg1)⟩
          · go_wp2_with (go_at_call 105; refine HI.out.mono ?_; rintro e w1 ⟨rfl, hg1⟩)
            exact ⟨⟨i + 1, by omega, by go_num, grown_trans hg hg1, fun j hj h => by
              rcases Nat.lt_or_eq_of_le (Nat.le_of_lt_succ h) with h | rfl
              · exact HALL.out j hj h
              · rw [← HDD.out]; exact HQ.out.symm⟩, by simp [intOf]; omega⟩
        · obtain rfl : i = nn := by omega
          obtain rfl : bn = true := HBN.out.2 fun j hj => HALL.out j hj (by omega)
          have hW := grown_trans HW0.out hg
          have k0 := hg.cell Hk0.out (by simp); have k1 := hg.cell Hk1.out (by simp); have k2 := hg.cell Hk2.out (by simp); have k3 := hg.cell Hk3.out (by simp); have k4 := hg.cell Hk4.out (by simp); have k5 := hg.cell Hk5.out (by simp); have k6 := hg.cell Hk6.out (by simp); have k7 := hg.cell Hk7.out (by simp); have k8 := hg.cell Hk8.out (by simp); clear HALL
          cases z
          all_goals
            go_wp2_with (go_at_call 106; refine (HZ.out _ hW).mono ?_; rintro e w1 ⟨rfl, hg⟩; replace hW := grown_trans hW hg)
            go_ret
            exact ⟨by simp, hW⟩
  have HK1 := hid hk1
  by_cases hk5 : k = 5
  · subst hk5
    by_cases hn : nn = 0
    · have hz0 : (nn : Int) = 0 := by omega
      have HC : Hid (cntS 5 nn = true) := hid (by unfold cntS; simp [hn])
      rw [HC.out]
      clear hz0 HOUT h1 h2 hk1
      obtain rfl := hn
      go_enter Tryz.func57, Tryz.ntmps57
      go_upto_region 1 with fail
      generalize (w.alloc _) = w0 at *
      go_wp2_with fail
      have HW0 := hid hW
      have Hk0 := hid k0; have Hk1 := hid k1; have Hk2 := hid k2; have Hk3 := hid k3; have Hk4 := hid k4; have Hk5 := hid k5; have Hk6 := hid k6; have Hk7 := hid k7; have Hk8 := hid k8
      clear hW k0 k1 k2 k3 k4 k5 k6 k7 k8
      go_loopw [48] (fun y wr => ∃ i : Nat, i ≤ 0 ∧ y = .int .i64 i ∧ w0.grownBy wr none ∧ ∀ j (hj : j < L.length), j < i → isNm (L[j]).data.toList = true) (fun y _ => 0 - (intOf y).toNat)
      case atStart => exact ⟨0, Nat.zero_le _, rfl, grown_refl _ _, fun j _ h => absurd h (Nat.not_lt_zero j)⟩
      case round =>
        obtain ⟨i, hi, rfl, hg, hall⟩ := hrel
        have HALL := hid hall
        clear hall
        by_cases hlt : i < 0
        · exact absurd hlt (Nat.not_lt_zero _)
        · obtain rfl : i = 0 := by omega
          obtain rfl : bn = true := HBN.out.2 fun j hj => HALL.out j hj (by omega)
          have hW := grown_trans HW0.out hg
          have k0 := hg.cell Hk0.out (by simp); have k1 := hg.cell Hk1.out (by simp); have k2 := hg.cell Hk2.out (by simp); have k3 := hg.cell Hk3.out (by simp); have k4 := hg.cell Hk4.out (by simp); have k5 := hg.cell Hk5.out (by simp); have k6 := hg.cell Hk6.out (by simp); have k7 := hg.cell Hk7.out (by simp); have k8 := hg.cell Hk8.out (by simp); clear HALL
          by_cases h4 : e1 = 1
          · subst h4
            go_wp2_with fail
            go_ret
            exact ⟨by simp [], hW⟩
          · have h4' : (e1 == 1) = false := by simpa using h4
            have H4 := hid h4
            clear h4
            go_upto_region 20 with fail
            go_region_held3 (fun w' => w'.cell? ⟨w.heap.size, 0, none⟩ = some (.int .i64 5) ∧ w'.cell? ⟨w.heap.size, 1, none⟩ = some (.slice pn 0 cn) ∧ w'.cell? ⟨w.heap.size, 2, none⟩ = some (.int .i64 e1) ∧ w'.cell? ⟨w.heap.size, 3, none⟩ = some (.string e2) ∧ w'.cell? ⟨w.heap.size, 4, none⟩ = some (.bool e3) ∧ w'.cell? ⟨w.heap.size, 5, none⟩ = some (.slice p1 n1 c1) ∧ w'.cell? ⟨w.heap.size, 6, none⟩ = some (.slice p2 n2 c2) ∧ w'.cell? ⟨w.heap.size, 7, none⟩ = some (.slice p3 n3 c3) ∧ w'.cell? ⟨w.heap.size, 8, none⟩ = some (.int .i64 e7) ∧ w.grownBy w' none) ((try go_split_ands) <;> (repeat' apply And.intro) <;> (first | (with_reducible assumption) | (with_reducible refine (grown_drew _ none).cell ?_ (by simp); with_reducible assumption) | (with_reducible refine grown_trans ?_ (grown_drew _ none); with_reducible assumption))) (first | (go_at_call 107; (first | refine (HS.out _ hW).mono ?_ | refine (HS.out _ (grown_trans hW (grown_drew _ none))).mono ?_); rintro e w1 ⟨rfl, hg⟩; (first | replace hW := grown_trans hW hg | replace hW := grown_trans (grown_trans hW (grown_drew _ none)) hg); replace k0 := hg.cell k0 (by simp); replace k1 := hg.cell k1 (by simp); replace k2 := hg.cell k2 (by simp); replace k3 := hg.cell k3 (by simp); replace k4 := hg.cell k4 (by simp); replace k5 := hg.cell k5 (by simp); replace k6 := hg.cell k6 (by simp); replace k7 := hg.cell k7 (by simp); replace k8 := hg.cell k8 (by simp); clear hg) | (go_at_call 33; (first | refine (HX.out _ hW).mono ?_ | refine (HX.out _ (grown_trans hW (grown_drew _ none))).mono ?_); rintro e w1 ⟨rfl, hg⟩; (first | replace hW := grown_trans hW hg | replace hW := grown_trans (grown_trans hW (grown_drew _ none)) hg); replace k0 := hg.cell k0 (by simp); replace k1 := hg.cell k1 (by simp); replace k2 := hg.cell k2 (by simp); replace k3 := hg.cell k3 (by simp); replace k4 := hg.cell k4 (by simp); replace k5 := hg.cell k5 (by simp); replace k6 := hg.cell k6 (by simp); replace k7 := hg.cell k7 (by simp); replace k8 := hg.cell k8 (by simp); clear hg))
            go_wp2_with fail
            go_ret
            have h4 := H4.out
            exact ⟨by simp [h4, ], by first | exact hW | exact grown_trans hW (grown_drew _ none)⟩
    · have hz0 : ((nn : Int) == 0) = false := by simpa using hn
      have HC : Hid (cntS 5 nn = false) := hid (by unfold cntS; simp [hn])
      rw [HC.out, if_pos rfl]
      clear hk1
      go_enter Tryz.func57, Tryz.ntmps57
      go_upto_region 1 with fail
      generalize (w.alloc _) = w0 at *
      go_wp2_with fail
      go_ret
      exact ⟨rfl, hW⟩
  · have hka : (k == 1) = false := by simpa using hk1
    have hkb : (k == 5) = false := by simpa using hk5
    have hkc : (k != 1) = true := by simpa using hk1
    have hkd : (k != 5) = true := by simpa using hk5
    by_cases hn : nn = 1
    · have hz0 : ((nn : Int) != 1) = false := by simp [hn]
      have HC : Hid (cntS k nn = true) := hid (by unfold cntS; simp [hk1, hk5, hn])
      rw [HC.out]
      clear HOUT hn hk1 hk5
      go_enter Tryz.func57, Tryz.ntmps57
      go_upto_region 1 with fail
      generalize (w.alloc _) = w0 at *
      go_wp2_with fail
      clear hz0 h1 h2 hkc hkd
      have HW0 := hid hW
      have Hk0 := hid k0; have Hk1 := hid k1; have Hk2 := hid k2; have Hk3 := hid k3; have Hk4 := hid k4; have Hk5 := hid k5; have Hk6 := hid k6; have Hk7 := hid k7; have Hk8 := hid k8; have Hhka := hid hka; have Hhkb := hid hkb; clear hka hkb
      clear hW k0 k1 k2 k3 k4 k5 k6 k7 k8
      go_loopw [48] (fun y wr => ∃ i : Nat, i ≤ nn ∧ y = .int .i64 i ∧ w0.grownBy wr none ∧ ∀ j (hj : j < L.length), j < i → isNm (L[j]).data.toList = true) (fun y _ => nn - (intOf y).toNat)
      case atStart => exact ⟨0, Nat.zero_le _, rfl, grown_refl _ _, fun j _ h => absurd h (Nat.not_lt_zero j)⟩
      case round =>
        obtain ⟨i, hi, rfl, hg, hall⟩ := hrel
        have HALL := hid hall
        clear hall
        by_cases hlt : i < nn
        · obtain ⟨bA, oA, rfl, c0⟩ := NRd.at1 (HL.out.keep (grown_trans HW0.out hg)) (i := i) (by omega)
          have hsz := HLS.out i (by omega)
          obtain ⟨q, hq⟩ : ∃ q, q = isNm (L[i]'(by omega)).data.toList := ⟨_, rfl⟩
          have HI := hid (rIsName_any (L[i]'(by omega)) _ rfl wr)
          rw [← hq] at HI
          have HQ := hid hq
          clear hq hsz
          obtain ⟨d, hd⟩ : ∃ d, d = L[i]'(by omega) := ⟨_, rfl⟩
          rw [← hd] at c0 HI HQ
          have HDD := hid hd
          clear hd
          cases q
          · obtain rfl : bn = false := by
              rw [← Bool.not_eq_true, HBN.out]
              intro h9
              have h1 := h9 i (by omega)
              rw [← HDD.out, ← HQ.out] at h1
              cases h1
            go_wp2_with (go_at_call 105; refine HI.out.mono ?_; rintro e w1 ⟨rfl, hg1⟩)
            go_ret
            exact ⟨by simp, grown_trans HW0.out (grown_trans hg hg1)⟩
          · go_wp2_with (go_at_call 105; refine HI.out.mono ?_; rintro e w1 ⟨rfl, hg1⟩)
            exact ⟨⟨i + 1, by omega, by go_num, grown_trans hg hg1, fun j hj h => by
              rcases Nat.lt_or_eq_of_le (Nat.le_of_lt_succ h) with h | rfl
              · exact HALL.out j hj h
              · rw [← HDD.out]; exact HQ.out.symm⟩, by simp [intOf]; omega⟩
        · obtain rfl : i = nn := by omega
          obtain rfl : bn = true := HBN.out.2 fun j hj => HALL.out j hj (by omega)
          have hW := grown_trans HW0.out hg
          have k0 := hg.cell Hk0.out (by simp); have k1 := hg.cell Hk1.out (by simp); have k2 := hg.cell Hk2.out (by simp); have k3 := hg.cell Hk3.out (by simp); have k4 := hg.cell Hk4.out (by simp); have k5 := hg.cell Hk5.out (by simp); have k6 := hg.cell Hk6.out (by simp); have k7 := hg.cell Hk7.out (by simp); have k8 := hg.cell Hk8.out (by simp); have hka := Hhka.out; have hkb := Hhkb.out; clear HALL
          by_cases h4 : e1 = 1
          · subst h4
            go_wp2_with fail
            go_ret
            exact ⟨by have := HK1.out; simp [this], hW⟩
          · have h4' : (e1 == 1) = false := by simpa using h4
            have H4 := hid h4
            clear h4
            go_upto_region 20 with fail
            go_region_held3 (fun w' => w'.cell? ⟨w.heap.size, 0, none⟩ = some (.int .i64 k) ∧ w'.cell? ⟨w.heap.size, 1, none⟩ = some (.slice pn i cn) ∧ w'.cell? ⟨w.heap.size, 2, none⟩ = some (.int .i64 e1) ∧ w'.cell? ⟨w.heap.size, 3, none⟩ = some (.string e2) ∧ w'.cell? ⟨w.heap.size, 4, none⟩ = some (.bool e3) ∧ w'.cell? ⟨w.heap.size, 5, none⟩ = some (.slice p1 n1 c1) ∧ w'.cell? ⟨w.heap.size, 6, none⟩ = some (.slice p2 n2 c2) ∧ w'.cell? ⟨w.heap.size, 7, none⟩ = some (.slice p3 n3 c3) ∧ w'.cell? ⟨w.heap.size, 8, none⟩ = some (.int .i64 e7) ∧ w.grownBy w' none) ((try go_split_ands) <;> (repeat' apply And.intro) <;> (first | (with_reducible assumption) | (with_reducible refine (grown_drew _ none).cell ?_ (by simp); with_reducible assumption) | (with_reducible refine grown_trans ?_ (grown_drew _ none); with_reducible assumption))) (first | (go_at_call 107; (first | refine (HS.out _ hW).mono ?_ | refine (HS.out _ (grown_trans hW (grown_drew _ none))).mono ?_); rintro e w1 ⟨rfl, hg⟩; (first | replace hW := grown_trans hW hg | replace hW := grown_trans (grown_trans hW (grown_drew _ none)) hg); replace k0 := hg.cell k0 (by simp); replace k1 := hg.cell k1 (by simp); replace k2 := hg.cell k2 (by simp); replace k3 := hg.cell k3 (by simp); replace k4 := hg.cell k4 (by simp); replace k5 := hg.cell k5 (by simp); replace k6 := hg.cell k6 (by simp); replace k7 := hg.cell k7 (by simp); replace k8 := hg.cell k8 (by simp); clear hg) | (go_at_call 33; (first | refine (HX.out _ hW).mono ?_ | refine (HX.out _ (grown_trans hW (grown_drew _ none))).mono ?_); rintro e w1 ⟨rfl, hg⟩; (first | replace hW := grown_trans hW hg | replace hW := grown_trans (grown_trans hW (grown_drew _ none)) hg); replace k0 := hg.cell k0 (by simp); replace k1 := hg.cell k1 (by simp); replace k2 := hg.cell k2 (by simp); replace k3 := hg.cell k3 (by simp); replace k4 := hg.cell k4 (by simp); replace k5 := hg.cell k5 (by simp); replace k6 := hg.cell k6 (by simp); replace k7 := hg.cell k7 (by simp); replace k8 := hg.cell k8 (by simp); clear hg))
            go_wp2_with fail
            go_ret
            have h4 := H4.out
            exact ⟨by have := HK1.out; simp [h4, this], by first | exact hW | exact grown_trans hW (grown_drew _ none)⟩
    · have hz0 : ((nn : Int) != 1) = true := by
        simp
        omega
      have HC : Hid (cntS k nn = false) := hid (by unfold cntS; simp [hk1, hk5, hn])
      rw [HC.out, if_pos rfl]
      clear hk1 hk5
      go_enter Tryz.func57, Tryz.ntmps57
      go_upto_region 1 with fail
      generalize (w.alloc _) = w0 at *
      go_wp2_with fail
      go_ret
      exact ⟨rfl, hW⟩
end Go.Proofs.YtiaonbofkgkdhaaGreatDoor

set_option linter.unusedVariables false
set_option linter.unusedSimpArgs false
namespace Go.Proofs.YtiaonbofkgkdhaaGreatDoor
open Go.RowKit _root_.Nm Lx
set_option maxHeartbeats 8000000 in
set_option maxRecDepth 100000 in
theorem empty_any (e1 : Int) (e2 : ByteArray) (e3 : Bool) (p1 : Option Addr) (n1 c1 : Nat) (p2 : Option Addr) (n2 c2 : Nat) (p3 : Option Addr) (n3 c3 : Nat) (e7 : Int) (z : Bool) (w : World) (hz : z = true ↔ e1 = 0 ∧ e2.data.toList = [] ∧ (e3 = false ∧ n1 = 0 ∧ n2 = 0) ∧ n3 = 0) :
    Calls Tryz.prog 106 #[.agg #[.int .i64 e1, .string e2, .bool e3, .slice p1 n1 c1, .slice p2 n2 c2, .slice p3 n3 c3, .int .i64 e7]] w fun e w' => e = .returned (.bool z) ∧ w.grownBy w' none := by
  obtain ⟨r, hr⟩ := ex_bool (e3 = false ∧ n1 = 0 ∧ n2 = 0)
  have hzz : z = (decide (e1 = 0) && (decide (e2.data.toList = []) && (r && decide (n3 = 0)))) := by
    rw [Bool.eq_iff_iff, hz]
    simp only [Bool.and_eq_true, decide_eq_true_eq, hr]
  subst hzz
  have HR := hid fun w => none_any e3 p1 p2 n1 c1 n2 c2 r hr w
  clear hz hr
  have hW := World.grownBy_alloc w (.cells #[.int .i64 e1, .string e2, .bool e3, .slice p1 n1 c1, .slice p2 n2 c2, .slice p3 n3 c3, .int .i64 e7] 43 (0, 0)) none
  obtain ⟨⟨k0, k1, k2, k3, k4, k5, k6⟩, -⟩ := box7 (blk0 w (.cells #[.int .i64 e1, .string e2, .bool e3, .slice p1 n1 c1, .slice p2 n2 c2, .slice p3 n3 c3, .int .i64 e7] 43 (0, 0)))
  by_cases h1 : e1 = 0
  · subst h1
    by_cases h2 : e2.data.toList = []
    · have hq : e2.toList.isEmpty = true := by simp [Lib.toList_data, h2]
      cases r
      all_goals
        go_enter Tryz.func106, Tryz.ntmps106
        go_upto_region 1 with fail
        generalize (w.alloc _) = w0 at *
        go_wp2_with (go_at_call 117; refine (HR.out _).mono ?_; rintro e w1 ⟨rfl, hg⟩; replace hW := grown_trans hW hg; replace k0 := hg.cell k0 (by simp); replace k1 := hg.cell k1 (by simp); replace k2 := hg.cell k2 (by simp); replace k3 := hg.cell k3 (by simp); replace k4 := hg.cell k4 (by simp); replace k5 := hg.cell k5 (by simp); replace k6 := hg.cell k6 (by simp))
        go_ret
        have hA : ((n3 : Int) == 0) = decide (n3 = 0) := by rw [Bool.eq_iff_iff]; simp
        exact ⟨by simp [h2, hA], hW⟩
    · have hq : e2.toList.isEmpty = false := by rw [List.isEmpty_eq_false_iff, Lib.toList_data]; exact h2
      go_enter Tryz.func106, Tryz.ntmps106
      go_upto_region 1 with fail
      generalize (w.alloc _) = w0 at *
      go_wp2_with fail
      go_ret
      exact ⟨by simp [h2], hW⟩
  · have hq : (e1 == 0) = false := by simpa using h1
    go_enter Tryz.func106, Tryz.ntmps106
    go_upto_region 1 with fail
    generalize (w.alloc _) = w0 at *
    go_wp2_with fail
    go_ret
    exact ⟨by simp [h1], hW⟩
theorem eq_zeroT {w : World} {m : Nat} {h : Hd} {l : List Tr} {e1 : Int} {e2 : ByteArray} {e3 : Bool} {p1 : Option Addr} {n1 c1 : Nat} {p2 : Option Addr} {n2 c2 : Nat} {p3 : Option Addr} {n3 c3 : Nat} {e7 : Int} (hE : ERd w (m + 1) [.int .i64 e1, .string e2, .bool e3, .slice p1 n1 c1, .slice p2 n2 c2, .slice p3 n3 c3, .int .i64 e7] (.node h l)) :
    EqP (m + 1) (.node h l) zeroT ↔ e1 = 0 ∧ e2.data.toList = [] ∧ (e3 = false ∧ n1 = 0 ∧ n2 = 0) ∧ n3 = 0 := by
  obtain ⟨⟨r1, r2, r3, r7⟩, hn, hd, hA, hnm⟩ := ARd.of hE
  have a1 := hn.len
  have a2 := hd.len
  have a3 := hA.1.1
  unfold zeroT EqP
  rw [← r1, ← r2, ← r3]
  constructor
  · rintro ⟨⟨h1, h2, h3, h4, h5⟩, h6, _⟩
    subst h1 h2 h3
    rw [h4] at a1
    rw [h5] at a2
    exact ⟨rfl, rfl, ⟨rfl, by simpa using a1.symm, by simpa using a2.symm⟩, by simp at h6; simp [h6] at a3; omega⟩
  · rintro ⟨h1, h2, ⟨h3, h4, h5⟩, h6⟩
    subst h4 h5 h6
    refine ⟨⟨h1, ?_, h3, List.eq_nil_of_length_eq_zero a1, List.eq_nil_of_length_eq_zero a2⟩, by simpa using a3, fun i hi hi' => absurd hi' (Nat.not_lt_zero i)⟩
    rw [← bytes_eq, Lib.toList_data, Lib.toList_data, h2]
/-- a statement in memory: its cells, its names, the tree of its expression -/
structure StOk (w : World) (cs : List Value) (k : Int) (L : List ByteArray) (m : Nat) (t : Tr) : Prop where
  mem : ∃ (pn : Option Addr) (nn cn : Nat) (ce : List Value) (o : Int), cs = [.int .i64 k, .slice pn nn cn] ++ ce ++ [.int .i64 o] ∧ NRd w pn nn cn L ∧ ERd w m ce t
  names : ∀ i (hi : i < L.length), (L[i]).size ≤ maxLen
theorem StOk.keep {w w' : World} {cs : List Value} {k : Int} {L : List ByteArray} {m : Nat} {t : Tr} (h : StOk w cs k L m t) (hg : w.grownBy w' none) : StOk w' cs k L m t := by
  obtain ⟨pn, nn, cn, ce, o, h1, h2, h3⟩ := h.mem
  exact ⟨⟨pn, nn, cn, ce, o, h1, h2.keep hg, h3.keep hg⟩, h.names⟩
theorem stmt_both (cs : List Value) (k : Int) (L : List ByteArray) (m : Nat) (t : Tr) (w : World) (Tq : Tb w) (hS : StOk w cs k L m t) (hD : DgF m t) (hsz : szF m t ≤ 1048576) : ∃ x : Int,
    (∀ W, w.grownBy W none → Calls Tryz.prog 54 #[.agg cs.toArray] W fun e w' => e = .returned (.int .i64 x) ∧ W.grownBy w' none) ∧
    (∀ W, w.grownBy W none → Calls Tryz.prog 57 #[.agg cs.toArray] W fun e w' => e = .returned (.int .i64 x) ∧ W.grownBy w' none) := by
  obtain ⟨⟨pn, nn, cn, ce, o, rfl, hL, hE⟩, hN⟩ := hS
  obtain ⟨e1, e2, e3, p1, n1, c1, p2, n2, c2, p3, n3, c3, e7, rfl⟩ := hE.shape
  obtain ⟨X, X1, X2⟩ := check_both m _ t (sortS k) w Tq hE hD hsz
  obtain ⟨bn, hbn⟩ := ex_bool (∀ i (hi : i < L.length), isNm (L[i]).data.toList = true)
  cases m with
  | zero => exact hE.elim
  | succ m =>
  cases t with
  | node h l =>
  obtain ⟨z, hz⟩ := ex_bool (EqP (m + 1) (.node h l) zeroT)
  refine ⟨stE k nn bn z e1 X, fun W hW => ?_, fun W hW => ?_⟩
  · exact checkStmt_n k pn nn cn e1 e2 e3 p1 n1 c1 p2 n2 c2 p3 n3 c3 e7 o bn z X W (fun W' hW' => allNames_any pn nn cn L W' (hL.keep (grown_trans hW hW')) hN bn hbn) (fun W' hW' => checkNone_any (m + 1) _ _ z hz W' (hE.keep (grown_trans hW hW'))) (fun W' hW' => X1 W' (grown_trans hW hW'))
  · exact rCheckStmt_n k pn nn cn e1 e2 e3 p1 n1 c1 p2 n2 c2 p3 n3 c3 e7 o bn z X L W (hL.keep hW) hN hbn (fun W' hW' => empty_any e1 e2 e3 p1 n1 c1 p2 n2 c2 p3 n3 c3 e7 z W' (hz.trans (eq_zeroT hE))) (fun W' hW' => X2 W' (grown_trans hW hW'))
end Go.Proofs.YtiaonbofkgkdhaaGreatDoor
