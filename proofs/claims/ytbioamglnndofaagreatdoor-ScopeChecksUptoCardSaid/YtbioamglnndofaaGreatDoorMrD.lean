/-
  AdA EqC AdB AdC AdD AdE AdF AdG AdH AdJ, in one text.
-/
import Derived.Test.YtbioamglnndofaaGreatDoorMrC
import Derived.Test.YtbioamglnndofaaGreatDoorMrL
import Derived.Test.YtbioamglnndofaaGreatDoorMrA
import Derived.Deep.RegionHeld3
import Derived.SliceStrings

set_option linter.unusedVariables false
set_option linter.unusedSimpArgs false
namespace Go.Proofs.YtbioamglnndofaaGreatDoor
open Go.RowKit _root_.Nm Lx
set_option maxHeartbeats 8000000 in
set_option maxRecDepth 100000 in
theorem allNames_any (p : Option Addr) (n c : Nat) (L : List ByteArray) (w : World) (h : NRd w p n c L) (hs : ∀ i (hi : i < L.length), (L[i]).size ≤ maxLen) (b : Bool) (hb : b = true ↔ ∀ i (hi : i < L.length), isNm (L[i]).data.toList = true) :
    Calls Tryz.prog 58 #[.slice p n c] w fun e w' => e = .returned (.bool b) ∧ w.grownBy w' none := by
  have hl := h.len
  have hc := SRd.cap h
  have hm := SRd.max h
  have H := hid h
  have HS := hid hs
  have HB := hid hb
  clear h hs hb
  go_enter Tryz.func58, Tryz.ntmps58
  go_wp2_with fail
  go_loopw [7] (fun x wr => ∃ k : Nat, k ≤ n ∧ x = .int .i64 k ∧ w.grownBy wr none ∧ ∀ i (hi : i < L.length), i < k → isNm (L[i]).data.toList = true) (fun x _ => n - (intOf x).toNat)
  case atStart => exact ⟨0, Nat.zero_le _, rfl, grown_refl _ _, fun i _ h => absurd h (Nat.not_lt_zero i)⟩
  case round =>
    obtain ⟨k, hk, rfl, hg, hall⟩ := hrel
    have HALL := hid hall
    clear hall
    by_cases hlt : k < n
    · obtain ⟨bA, oA, rfl, c0⟩ := NRd.at1 (H.out.keep hg) (i := k) (by omega)
      have hsz := HS.out k (by omega)
      obtain ⟨q, hq⟩ : ∃ q, q = isNm (L[k]'(by omega)).data.toList := ⟨_, rfl⟩
      have HI := hid (isName_any (L[k]'(by omega)) _ rfl (by rw [Array.length_toList]; exact hsz) wr)
      rw [← hq] at HI
      have HQ := hid hq
      clear hq hsz
      obtain ⟨d, hd⟩ : ∃ d, d = L[k]'(by omega) := ⟨_, rfl⟩
      rw [← hd] at c0 HI HQ
      have HDD := hid hd
      clear hd
      cases q
      · obtain rfl : b = false := by
          rw [← Bool.not_eq_true, HB.out]
          intro h9
          have h1 := h9 k (by omega)
          rw [← HDD.out, ← HQ.out] at h1
          cases h1
        go_wp2_with (go_at_call 20; refine HI.out.mono ?_; rintro e w1 ⟨rfl, hg1⟩)
        go_ret
        exact ⟨rfl, grown_trans hg hg1⟩
      · go_wp2_with (go_at_call 20; refine HI.out.mono ?_; rintro e w1 ⟨rfl, hg1⟩)
        exact ⟨⟨k + 1, by omega, by go_num, grown_trans hg hg1, fun i hi h => by
          rcases Nat.lt_or_eq_of_le (Nat.le_of_lt_succ h) with h | rfl
          · exact HALL.out i hi h
          · rw [← HDD.out]; exact HQ.out.symm⟩, by simp [intOf]; omega⟩
    · obtain rfl : k = n := by omega
      obtain rfl : b = true := HB.out.2 fun i hi => HALL.out i hi (by omega)
      go_wp2_with fail
      go_ret
      exact ⟨rfl, hg⟩
/-- the sort of the expression of a kind of statements -/
def sortS (k : Int) : Int := if k = 2 then 1 else if k = 3 then 2 else if k = 4 then 3 else if k = 5 then 4 else 0
set_option maxHeartbeats 4000000 in
set_option maxRecDepth 100000 in
theorem sortOf_any (k : Int) (w : World) : Calls Tryz.prog 61 #[.int .i64 k] w fun e w' => e = .returned (.int .i64 (sortS k)) ∧ w.grownBy w' none := by
  unfold sortS
  by_cases h2 : k = 2
  · subst h2
    go_enter Tryz.func61, Tryz.ntmps61
    go_wp2_with fail
    go_ret
    exact ⟨by simp, grown_refl _ _⟩
  by_cases h3 : k = 3
  · subst h3
    go_enter Tryz.func61, Tryz.ntmps61
    go_wp2_with fail
    go_ret
    exact ⟨by simp, grown_refl _ _⟩
  by_cases h4 : k = 4
  · subst h4
    go_enter Tryz.func61, Tryz.ntmps61
    go_wp2_with fail
    go_ret
    exact ⟨by simp, grown_refl _ _⟩
  by_cases h5 : k = 5
  · subst h5
    go_enter Tryz.func61, Tryz.ntmps61
    go_wp2_with fail
    go_ret
    exact ⟨by simp, grown_refl _ _⟩
  go_enter Tryz.func61, Tryz.ntmps61
  go_wp2_with fail
  go_ret
  exact ⟨by simp [h2, h3, h4, h5], grown_refl _ _⟩
set_option maxHeartbeats 4000000 in
set_option maxRecDepth 100000 in
theorem rStmtSort_any (k : Int) (w : World) : Calls Tryz.prog 30 #[.int .i64 k] w fun e w' => e = .returned (.int .i64 (sortS k)) ∧ w.grownBy w' none := by
  unfold sortS
  by_cases h2 : k = 2
  · subst h2
    go_enter Tryz.func30, Tryz.ntmps30
    go_wp2_with fail
    go_ret
    exact ⟨by simp, grown_refl _ _⟩
  by_cases h3 : k = 3
  · subst h3
    go_enter Tryz.func30, Tryz.ntmps30
    go_wp2_with fail
    go_ret
    exact ⟨by simp, grown_refl _ _⟩
  by_cases h4 : k = 4
  · subst h4
    go_enter Tryz.func30, Tryz.ntmps30
    go_wp2_with fail
    go_ret
    exact ⟨by simp, grown_refl _ _⟩
  by_cases h5 : k = 5
  · subst h5
    go_enter Tryz.func30, Tryz.ntmps30
    go_wp2_with fail
    go_ret
    exact ⟨by simp, grown_refl _ _⟩
  go_enter Tryz.func30, Tryz.ntmps30
  go_wp2_with fail
  go_ret
  exact ⟨by simp [h2, h3, h4, h5], grown_refl _ _⟩
end Go.Proofs.YtbioamglnndofaaGreatDoor

set_option linter.unusedVariables false
set_option linter.unusedSimpArgs false
namespace Go.Proofs.YtbioamglnndofaaGreatDoor
open Go.RowKit _root_.Nm
/-- EqualExpr keeps its promise down to a depth -/
def EqOk (m : Nat) : Prop := ∀ (m' : Nat) (cs cs' : List Value) (t t' : Tr) (b : Bool) (w : World), ERd w m cs t → ERd w m' cs' t' → (b = true ↔ EqP m t t') →
  Calls Tryz.prog 42 #[.agg cs.toArray, .agg cs'.toArray] w fun e w' => e = .returned (.bool b) ∧ w.grownBy w' none

set_option maxHeartbeats 8000000 in
set_option maxRecDepth 100000 in
theorem eqFn_any (m m' : Nat) (hIH : EqOk m) (pa pb : Option Addr) (na ca nb cb : Nat) (l l' : List Tr) (b : Bool) (w : World) (hA : ARd w m pa na ca l) (hB : ARd w m' pb nb cb l') (hb : b = true ↔ (l.length = l'.length ∧ ∀ i (hi : i < l.length) (hi' : i < l'.length), EqP m l[i] l'[i])) :
    Calls Tryz.prog 56 #[.slice pa na ca, .slice pb nb cb, .func (.func 42) #[] #[]] w fun e w' => e = .returned (.bool b) ∧ w.grownBy w' none := by
  obtain ⟨⟨hla, hca, hma⟩, _⟩ := id hA
  obtain ⟨⟨hlb, hcb, hmb⟩, _⟩ := id hB
  have IH := hid hIH
  have HA := hid hA
  have HB := hid hB
  have HH := hid hb
  clear hIH hA hB hb
  by_cases hnn : na = nb
  · subst hnn
    go_enter Tryz.func56, Tryz.ntmps56
    go_wp2_with fail
    go_loopw [17] (fun x wr => ∃ k : Nat, k ≤ na ∧ x = .int .i64 k ∧ w.grownBy wr none ∧ ∀ i (hi : i < l.length) (hi' : i < l'.length), i < k → EqP m l[i] l'[i]) (fun x _ => na - (intOf x).toNat)
    case atStart => exact ⟨0, Nat.zero_le _, rfl, grown_refl _ _, fun i _ _ h => absurd h (Nat.not_lt_zero i)⟩
    case round =>
      obtain ⟨k, hk, rfl, hg, hall⟩ := hrel
      have HALL := hid hall
      clear hall
      by_cases hlt : k < na
      · obtain ⟨bA, oA, e1, e2, e3, p1, n1, c1, p2, n2, c2, p3, n3, c3, e7, rfl, hE1, a0, a1, a2, a3, a4, a5, a6⟩ := (HA.out.keep hg).at (i := k) (by omega)
        obtain ⟨bB, oB, x1, x2, x3, q1, m1, d1, q2, m2, d2, q3, m3, d3, x7, rfl, hE2, b0, b1, b2, b3, b4, b5, b6⟩ := (HB.out.keep hg).at (i := k) (by omega)
        have hG1 := World.grownBy_alloc wr (.cells #[.int .i64 e1, .string e2, .bool e3, .slice p1 n1 c1, .slice p2 n2 c2, .slice p3 n3 c3, .int .i64 e7] 44 (0, 0)) none
        have hG2 := World.grownBy_alloc (wr.alloc (.cells #[.int .i64 e1, .string e2, .bool e3, .slice p1 n1 c1, .slice p2 n2 c2, .slice p3 n3 c3, .int .i64 e7] 44 (0, 0))) (.cells #[.int .i64 x1, .string x2, .bool x3, .slice q1 m1 d1, .slice q2 m2 d2, .slice q3 m3 d3, .int .i64 x7] 44 (0, 0)) none
        obtain ⟨bq, hbq⟩ : ∃ bq : Bool, bq = true ↔ EqP m (l[k]'(by omega)) (l'[k]'(by omega)) := ex_bool _
        have HC := hid (IH.out m' _ _ _ _ bq _ (hE1.keep (grown_trans hG1 hG2)) (hE2.keep (grown_trans hG1 hG2)) hbq)
        have HGG := hid (grown_trans hg (grown_trans hG1 hG2))
        have HQ := hid hbq
        replace b0 := hG1.cell b0 (by simp); replace b1 := hG1.cell b1 (by simp); replace b2 := hG1.cell b2 (by simp); replace b3 := hG1.cell b3 (by simp); replace b4 := hG1.cell b4 (by simp); replace b5 := hG1.cell b5 (by simp); replace b6 := hG1.cell b6 (by simp)
        clear hE1 hE2 hG1 hG2 hbq
        obtain ⟨⟨k0, k1, k2, k3, k4, k5, k6⟩, f0, f1, f2, f3, f4, f5, f6⟩ := box7 (blk0 wr (zeroE 44))
        have bx := blk0 (wr.alloc (.cells #[.int .i64 e1, .string e2, .bool e3, .slice p1 n1 c1, .slice p2 n2 c2, .slice p3 n3 c3, .int .i64 e7] 44 (0, 0))) (zeroE 44)
        rw [show (wr.alloc (.cells #[.int .i64 e1, .string e2, .bool e3, .slice p1 n1 c1, .slice p2 n2 c2, .slice p3 n3 c3, .int .i64 e7] 44 (0, 0))).heap.size = wr.heap.size + 1 by simp] at bx
        obtain ⟨⟨j0, j1, j2, j3, j4, j5, j6⟩, g0, g1, g2, g3, g4, g5, g6⟩ := box7 bx
        clear bx
        unfold zeroE at k0 k1 k2 k3 k4 k5 k6 f0 f1 f2 f3 f4 f5 f6 j0 j1 j2 j3 j4 j5 j6 g0 g1 g2 g3 g4 g5 g6
        cases bq
        · obtain rfl : b = false := by
            rw [← Bool.not_eq_true, HH.out]
            rintro ⟨_, h⟩
            have := HQ.out.2 (h k (by omega) (by omega))
            cases this
          go_wp2_with (go_at_call 42; refine HC.out.mono ?_; rintro e w2 ⟨rfl, hg2⟩)
          go_ret
          exact ⟨rfl, grown_trans HGG.out hg2⟩
        · go_wp2_with (go_at_call 42; refine HC.out.mono ?_; rintro e w2 ⟨rfl, hg2⟩)
          exact ⟨⟨k + 1, by omega, by go_num, grown_trans HGG.out hg2, fun i hi hi' h => by
            rcases Nat.lt_or_eq_of_le (Nat.le_of_lt_succ h) with h | rfl
            · exact HALL.out i hi hi' h
            · exact HQ.out.1 trivial⟩, by simp [intOf]; omega⟩
      · obtain rfl : k = na := by omega
        obtain rfl : b = true := HH.out.2 ⟨by omega, fun i hi hi' => HALL.out i hi hi' (by omega)⟩
        go_wp2_with fail
        go_ret
        exact ⟨rfl, hg⟩
  · obtain rfl : b = false := by
      rw [← Bool.not_eq_true, HH.out]
      rintro ⟨h, _⟩
      omega
    have hz : ¬ (na : Int) = (nb : Int) := by omega
    go_enter Tryz.func56, Tryz.ntmps56
    go_wp2_with fail
    go_ret
    exact ⟨rfl, grown_refl _ _⟩

set_option maxHeartbeats 16000000 in
set_option maxRecDepth 100000 in
theorem equalExpr_ok : ∀ m, EqOk m
  | 0 => fun _ _ _ _ _ _ _ h _ _ => h.elim
  | m + 1 => fun m' cs cs' t t' b w hE hE' hb => by
    have IH := equalExpr_ok m
    cases m' with
    | zero => exact hE'.elim
    | succ q =>
    cases t with
    | node h l =>
    cases t' with
    | node h' l' =>
    obtain ⟨e1, e2, e3, p1, n1, c1, p2, n2, c2, p3, n3, c3, e7, rfl⟩ := hE.shape
    obtain ⟨x1, x2, x3, q1, m1, d1, q2, m2, d2, q3, m3, d3, x7, rfl⟩ := hE'.shape
    obtain ⟨⟨r1, r2, r3, -⟩, hn, hd, hA, -⟩ := ARd.of hE
    obtain ⟨⟨s1, s2, s3, -⟩, hn', hd', hA', -⟩ := ARd.of hE'
    obtain ⟨v1, hv1⟩ := ex_bool (e3 = x3 ∧ h.num = h'.num ∧ h.den = h'.den)
    obtain ⟨v2, hv2⟩ := ex_bool (l.length = l'.length ∧ ∀ i (hi : i < l.length) (hi' : i < l'.length), EqP m l[i] l'[i])
    have hbb : b = (decide (e1 = x1) && (decide (e2 = x2) && (v1 && v2))) := by
      rw [Bool.eq_iff_iff, hb, EqP, ← r1, ← r2, ← r3, ← s1, ← s2, ← s3]
      simp only [Bool.and_eq_true, decide_eq_true_eq, hv1, hv2, and_assoc]
    have HR := hid fun w' (hg : w.grownBy w' none) => equalRat_any e3 x3 p1 p2 q1 q2 n1 c1 n2 c2 m1 d1 m2 d2 _ _ _ _ v1 hv1 w' (hn.keep hg) (hd.keep hg) (hn'.keep hg) (hd'.keep hg)
    have HF := hid fun w' (hg : w.grownBy w' none) => eqFn_any m q IH p3 q3 n3 c3 m3 d3 l l' v2 w' (hA.keep hg) (hA'.keep hg) hv2
    subst hbb
    clear hE hE' hb hn hd hA hn' hd' hA' hv1 hv2 r1 r2 r3 s1 s2 s3 IH
    obtain ⟨⟨k0, k1, k2, k3, k4, k5, k6⟩, -⟩ := box7 (blk1 w (.cells #[.int .i64 e1, .string e2, .bool e3, .slice p1 n1 c1, .slice p2 n2 c2, .slice p3 n3 c3, .int .i64 e7] 44 (0, 0)) (.cells #[.int .i64 x1, .string x2, .bool x3, .slice q1 m1 d1, .slice q2 m2 d2, .slice q3 m3 d3, .int .i64 x7] 44 (0, 0)))
    have bx := blk0 (w.alloc (.cells #[.int .i64 e1, .string e2, .bool e3, .slice p1 n1 c1, .slice p2 n2 c2, .slice p3 n3 c3, .int .i64 e7] 44 (0, 0))) (.cells #[.int .i64 x1, .string x2, .bool x3, .slice q1 m1 d1, .slice q2 m2 d2, .slice q3 m3 d3, .int .i64 x7] 44 (0, 0))
    rw [show (w.alloc (.cells #[.int .i64 e1, .string e2, .bool e3, .slice p1 n1 c1, .slice p2 n2 c2, .slice p3 n3 c3, .int .i64 e7] 44 (0, 0))).heap.size = w.heap.size + 1 by simp] at bx
    obtain ⟨⟨j0, j1, j2, j3, j4, j5, j6⟩, -⟩ := box7 bx
    clear bx
    have hW := grown_trans (World.grownBy_alloc w (.cells #[.int .i64 e1, .string e2, .bool e3, .slice p1 n1 c1, .slice p2 n2 c2, .slice p3 n3 c3, .int .i64 e7] 44 (0, 0)) none) (World.grownBy_alloc _ (.cells #[.int .i64 x1, .string x2, .bool x3, .slice q1 m1 d1, .slice q2 m2 d2, .slice q3 m3 d3, .int .i64 x7] 44 (0, 0)) none)
    by_cases h1 : e1 = x1
    · subst h1
      by_cases h2 : e2 = x2
      · subst h2
        cases v1
        all_goals
          go_enter Tryz.func42, Tryz.ntmps42
          go_upto_region 1 with fail
          generalize ((w.alloc _).alloc _) = w0 at *
          go_wp2_with (first
            | (go_at_call 55; refine (HR.out _ hW).mono ?_; rintro e w1 ⟨rfl, hg⟩; replace hW := grown_trans hW hg; replace k0 := hg.cell k0 (by simp); replace k1 := hg.cell k1 (by simp); replace k2 := hg.cell k2 (by simp); replace k3 := hg.cell k3 (by simp); replace k4 := hg.cell k4 (by simp); replace k5 := hg.cell k5 (by simp); replace k6 := hg.cell k6 (by simp); replace j0 := hg.cell j0 (by simp); replace j1 := hg.cell j1 (by simp); replace j2 := hg.cell j2 (by simp); replace j3 := hg.cell j3 (by simp); replace j4 := hg.cell j4 (by simp); replace j5 := hg.cell j5 (by simp); replace j6 := hg.cell j6 (by simp); clear HR hg)
            | (go_at_call 56; refine (HF.out _ hW).mono ?_; rintro e w1 ⟨rfl, hg⟩; replace hW := grown_trans hW hg; replace k0 := hg.cell k0 (by simp); replace k1 := hg.cell k1 (by simp); replace k2 := hg.cell k2 (by simp); replace k3 := hg.cell k3 (by simp); replace k4 := hg.cell k4 (by simp); replace k5 := hg.cell k5 (by simp); replace k6 := hg.cell k6 (by simp); replace j0 := hg.cell j0 (by simp); replace j1 := hg.cell j1 (by simp); replace j2 := hg.cell j2 (by simp); replace j3 := hg.cell j3 (by simp); replace j4 := hg.cell j4 (by simp); replace j5 := hg.cell j5 (by simp); replace j6 := hg.cell j6 (by simp); clear HF hg))
          go_ret
          exact ⟨by simp, hW⟩
      · go_enter Tryz.func42, Tryz.ntmps42
        go_upto_region 1 with fail
        generalize ((w.alloc _).alloc _) = w0 at *
        have hz : (e2.toList == x2.toList) = false := by
          rw [beq_eq_false_iff_ne]
          exact fun h => h2 (bytes_eq.1 h)
        go_wp2_with fail
        go_ret
        exact ⟨by simp [h2], hW⟩
    · go_enter Tryz.func42, Tryz.ntmps42
      go_upto_region 1 with fail
      generalize ((w.alloc _).alloc _) = w0 at *
      have hz := h1
      go_wp2_with fail
      go_ret
      exact ⟨by simp [h1], hW⟩
end Go.Proofs.YtbioamglnndofaaGreatDoor

set_option linter.unusedVariables false
set_option linter.unusedSimpArgs false
namespace Go.Proofs.YtbioamglnndofaaGreatDoor
open Go.RowKit _root_.Nm Lx
theorem box10' {w : World} {G : Nat} {a b c d e f g h i j : Value} {T : TypeId} (hb : w.heap[G]? = some (.cells #[a, b, c, d, e, f, g, h, i, j] T (0, 0))) :
    (w.cell? ⟨G, 0, none⟩ = some a ∧ w.cell? ⟨G, 1, none⟩ = some b ∧ w.cell? ⟨G, 2, none⟩ = some c ∧ w.cell? ⟨G, 3, none⟩ = some d ∧ w.cell? ⟨G, 4, none⟩ = some e ∧ w.cell? ⟨G, 5, none⟩ = some f ∧ w.cell? ⟨G, 6, none⟩ = some g ∧ w.cell? ⟨G, 7, none⟩ = some h ∧ w.cell? ⟨G, 8, none⟩ = some i ∧ w.cell? ⟨G, 9, none⟩ = some j) ∧
    (∀ o, w.frozen? ⟨G, o, none⟩ = false) := by
  have k := fun i => cell_of_row w G i _ _ _ hb
  have k0 := k 0
  have k1 := k 1
  have k2 := k 2
  have k3 := k 3
  have k4 := k 4
  have k5 := k 5
  have k6 := k 6
  have k7 := k 7
  have k8 := k 8
  have k9 := k 9
  simp at k0 k1 k2 k3 k4 k5 k6 k7 k8 k9
  exact ⟨⟨k0, k1, k2, k3, k4, k5, k6, k7, k8, k9⟩, fun o => frozen_of_row w G o _ _ hb⟩
/-- whether a kind of statements has this number of names -/
def cntS (k : Int) (n : Nat) : Bool := if k = 1 then decide (0 < n) else if k = 5 then decide (n = 0) else decide (n = 1)
set_option maxHeartbeats 8000000 in
set_option maxRecDepth 100000 in
theorem rightCount_any (k : Int) (pn : Option Addr) (nn cn : Nat) (e1 : Int) (e2 : ByteArray) (e3 : Bool) (p1 : Option Addr) (n1 c1 : Nat) (p2 : Option Addr) (n2 c2 : Nat) (p3 : Option Addr) (n3 c3 : Nat) (e7 o : Int) (w : World) :
    Calls Tryz.prog 57 #[.agg #[.int .i64 k, .slice pn nn cn, .int .i64 e1, .string e2, .bool e3, .slice p1 n1 c1, .slice p2 n2 c2, .slice p3 n3 c3, .int .i64 e7, .int .i64 o]] w fun e w' => e = .returned (.bool (cntS k nn)) ∧ w.grownBy w' none := by
  have hW := World.grownBy_alloc w (.cells #[.int .i64 k, .slice pn nn cn, .int .i64 e1, .string e2, .bool e3, .slice p1 n1 c1, .slice p2 n2 c2, .slice p3 n3 c3, .int .i64 e7, .int .i64 o] 46 (0, 0)) none
  obtain ⟨⟨k0, k1, -⟩, -⟩ := box10' (blk0 w (.cells #[.int .i64 k, .slice pn nn cn, .int .i64 e1, .string e2, .bool e3, .slice p1 n1 c1, .slice p2 n2 c2, .slice p3 n3 c3, .int .i64 e7, .int .i64 o] 46 (0, 0)))
  unfold cntS
  have hA : ((nn : Int) == 0) = decide (nn = 0) := by rw [Bool.eq_iff_iff]; simp
  have hB : ((nn : Int) == 1) = decide (nn = 1) := by rw [Bool.eq_iff_iff]; simp; omega
  have HA := hid hA
  have HB := hid hB
  clear hA hB
  by_cases h1 : k = 1
  · subst h1
    go_enter Tryz.func57, Tryz.ntmps57
    go_upto_region 1 with fail
    generalize (w.alloc _) = w0 at *
    go_wp2_with fail
    go_ret
    exact ⟨by simp, hW⟩
  by_cases h5 : k = 5
  · subst h5
    go_enter Tryz.func57, Tryz.ntmps57
    go_upto_region 1 with fail
    generalize (w.alloc _) = w0 at *
    go_wp2_with fail
    go_ret
    exact ⟨by simp [HA.out], hW⟩
  · go_enter Tryz.func57, Tryz.ntmps57
    go_upto_region 1 with fail
    generalize (w.alloc _) = w0 at *
    go_wp2_with fail
    go_ret
    exact ⟨by simp [h1, h5, HB.out], hW⟩
/-- the zero value, as a tree -/
def zeroT : Tr := .node ⟨0, ⟨#[]⟩, false, [], [], 0⟩ []
theorem zeroT_rd (w : World) : ERd w 1 [.int .i64 0, .string ⟨#[]⟩, .bool false, .slice none 0 0, .slice none 0 0, .slice none 0 0, .int .i64 0] zeroT :=
  ⟨none, 0, 0, none, 0, 0, none, 0, 0, rfl, IRd.nil w _, IRd.nil w _, ⟨rfl, Nat.le_refl _, by omega, by decide⟩, fun i hi => absurd hi (Nat.not_lt_zero i)⟩
set_option maxHeartbeats 8000000 in
set_option maxRecDepth 100000 in
theorem checkNone_any (m : Nat) (cs : List Value) (t : Tr) (b : Bool) (hb : b = true ↔ EqP m t zeroT) (w : World) (hE : ERd w m cs t) :
    Calls Tryz.prog 59 #[.agg cs.toArray] w fun e w' => e = .returned (.int .i64 (if b = true then 0 else 1)) ∧ w.grownBy w' none := by
  obtain ⟨e1, e2, e3, p1, n1, c1, p2, n2, c2, p3, n3, c3, e7, rfl⟩ := hE.shape
  have HQ := hid fun w' (hg : w.grownBy w' none) => equalExpr_ok m 1 _ _ t zeroT b w' (hE.keep hg) (zeroT_rd w') hb
  clear hE hb
  have hW := World.grownBy_alloc w (.cells #[.int .i64 e1, .string e2, .bool e3, .slice p1 n1 c1, .slice p2 n2 c2, .slice p3 n3 c3, .int .i64 e7] 44 (0, 0)) none
  obtain ⟨⟨k0, k1, k2, k3, k4, k5, k6⟩, -⟩ := box7 (blk0 w (.cells #[.int .i64 e1, .string e2, .bool e3, .slice p1 n1 c1, .slice p2 n2 c2, .slice p3 n3 c3, .int .i64 e7] 44 (0, 0)))
  cases b
  all_goals
    go_enter Tryz.func59, Tryz.ntmps59
    go_upto_region 1 with fail
    generalize (w.alloc _) = w0 at *
    go_wp2_with (go_at_call 42; refine (HQ.out _ hW).mono ?_; rintro e w1 ⟨rfl, hg⟩; replace hW := grown_trans hW hg)
    go_ret
    exact ⟨by simp, hW⟩
end Go.Proofs.YtbioamglnndofaaGreatDoor

set_option linter.unusedVariables false
set_option linter.unusedSimpArgs false
namespace Go.Proofs.YtbioamglnndofaaGreatDoor
open Go.RowKit _root_.Nm Lx
/-- the error of a statement: bn: its names are names; z: its expression is zero; X: the error of its expression -/
def stE (k : Int) (n : Nat) (bn z : Bool) (e1 X : Int) : Int :=
  if k < 1 ∨ 5 < k then 8 else if cntS k n = false then 1 else if bn = false then 6 else if k = 1 then (if z = true then 0 else 1) else if e1 = 1 then 8 else X
set_option maxHeartbeats 16000000 in
set_option maxRecDepth 100000 in
theorem checkStmt_n (k : Int) (pn : Option Addr) (nn cn : Nat) (e1 : Int) (e2 : ByteArray) (e3 : Bool) (p1 : Option Addr) (n1 c1 : Nat) (p2 : Option Addr) (n2 c2 : Nat) (p3 : Option Addr) (n3 c3 : Nat) (e7 o : Int) (bn z : Bool) (X : Int) (w : World)
    (HN : ∀ W, w.grownBy W none → Calls Tryz.prog 58 #[.slice pn nn cn] W fun e w' => e = .returned (.bool bn) ∧ W.grownBy w' none)
    (HZ : ∀ W, w.grownBy W none → Calls Tryz.prog 59 #[.agg #[.int .i64 e1, .string e2, .bool e3, .slice p1 n1 c1, .slice p2 n2 c2, .slice p3 n3 c3, .int .i64 e7]] W fun e w' => e = .returned (.int .i64 (if z = true then 0 else 1)) ∧ W.grownBy w' none)
    (HX : ∀ W, w.grownBy W none → Calls Tryz.prog 60 #[.agg #[.int .i64 e1, .string e2, .bool e3, .slice p1 n1 c1, .slice p2 n2 c2, .slice p3 n3 c3, .int .i64 e7], .int .i64 (sortS k)] W fun e w' => e = .returned (.int .i64 X) ∧ W.grownBy w' none) :
    Calls Tryz.prog 43 #[.agg #[.int .i64 k, .slice pn nn cn, .int .i64 e1, .string e2, .bool e3, .slice p1 n1 c1, .slice p2 n2 c2, .slice p3 n3 c3, .int .i64 e7, .int .i64 o]] w fun e w' => e = .returned (.int .i64 (stE k nn bn z e1 X)) ∧ w.grownBy w' none := by
  replace HN := hid HN
  replace HZ := hid HZ
  replace HX := hid HX
  have HC : Hid (∀ W, w.grownBy W none → _) := hid fun W _ => rightCount_any k pn nn cn e1 e2 e3 p1 n1 c1 p2 n2 c2 p3 n3 c3 e7 o W
  have HS : Hid (∀ W, w.grownBy W none → _) := hid fun W _ => sortOf_any k W
  obtain ⟨ct, hct⟩ : ∃ b, b = cntS k nn := ⟨_, rfl⟩
  obtain ⟨sk, hsk⟩ : ∃ b, b = sortS k := ⟨_, rfl⟩
  unfold stE
  rw [← hct] at HC ⊢
  rw [← hsk] at HS HX
  clear hct hsk
  have hW := World.grownBy_alloc w (.cells #[.int .i64 k, .slice pn nn cn, .int .i64 e1, .string e2, .bool e3, .slice p1 n1 c1, .slice p2 n2 c2, .slice p3 n3 c3, .int .i64 e7, .int .i64 o] 46 (0, 0)) none
  obtain ⟨⟨k0, k1, k2, k3, k4, k5, k6, k7, k8, k9⟩, -⟩ := box10' (blk0 w (.cells #[.int .i64 k, .slice pn nn cn, .int .i64 e1, .string e2, .bool e3, .slice p1 n1 c1, .slice p2 n2 c2, .slice p3 n3 c3, .int .i64 e7, .int .i64 o] 46 (0, 0)))
  by_cases h1 : k < 1
  · go_enter Tryz.func43, Tryz.ntmps43
    go_upto_region 1 with fail
    generalize (w.alloc _) = w0 at *
    go_wp2_with fail
    go_ret
    exact ⟨by simp [h1], hW⟩
  by_cases h2 : 5 < k
  · go_enter Tryz.func43, Tryz.ntmps43
    go_upto_region 1 with fail
    generalize (w.alloc _) = w0 at *
    go_wp2_with fail
    go_ret
    exact ⟨by simp [h2], hW⟩
  have HOUT := hid (show ¬ (k < 1 ∨ 5 < k) by omega)
  rw [if_neg HOUT.out]
  cases ct
  · go_enter Tryz.func43, Tryz.ntmps43
    go_upto_region 1 with fail
    generalize (w.alloc _) = w0 at *
    go_wp2_with (first | (go_at_call 57; (first | refine (HC.out _ hW).mono ?_ | refine (HC.out _ (grown_trans hW (grown_drew _ none))).mono ?_); rintro e w1 ⟨rfl, hg⟩; (first | replace hW := grown_trans hW hg | replace hW := grown_trans (grown_trans hW (grown_drew _ none)) hg); replace k0 := hg.cell k0 (by simp); replace k1 := hg.cell k1 (by simp); replace k2 := hg.cell k2 (by simp); replace k3 := hg.cell k3 (by simp); replace k4 := hg.cell k4 (by simp); replace k5 := hg.cell k5 (by simp); replace k6 := hg.cell k6 (by simp); replace k7 := hg.cell k7 (by simp); replace k8 := hg.cell k8 (by simp); clear hg) | (go_at_call 58; (first | refine (HN.out _ hW).mono ?_ | refine (HN.out _ (grown_trans hW (grown_drew _ none))).mono ?_); rintro e w1 ⟨rfl, hg⟩; (first | replace hW := grown_trans hW hg | replace hW := grown_trans (grown_trans hW (grown_drew _ none)) hg); replace k0 := hg.cell k0 (by simp); replace k1 := hg.cell k1 (by simp); replace k2 := hg.cell k2 (by simp); replace k3 := hg.cell k3 (by simp); replace k4 := hg.cell k4 (by simp); replace k5 := hg.cell k5 (by simp); replace k6 := hg.cell k6 (by simp); replace k7 := hg.cell k7 (by simp); replace k8 := hg.cell k8 (by simp); clear hg) | (go_at_call 59; (first | refine (HZ.out _ hW).mono ?_ | refine (HZ.out _ (grown_trans hW (grown_drew _ none))).mono ?_); rintro e w1 ⟨rfl, hg⟩; (first | replace hW := grown_trans hW hg | replace hW := grown_trans (grown_trans hW (grown_drew _ none)) hg); replace k0 := hg.cell k0 (by simp); replace k1 := hg.cell k1 (by simp); replace k2 := hg.cell k2 (by simp); replace k3 := hg.cell k3 (by simp); replace k4 := hg.cell k4 (by simp); replace k5 := hg.cell k5 (by simp); replace k6 := hg.cell k6 (by simp); replace k7 := hg.cell k7 (by simp); replace k8 := hg.cell k8 (by simp); clear hg))
    go_ret
    exact ⟨by simp, hW⟩
  cases bn
  · go_enter Tryz.func43, Tryz.ntmps43
    go_upto_region 1 with fail
    generalize (w.alloc _) = w0 at *
    go_wp2_with (first | (go_at_call 57; (first | refine (HC.out _ hW).mono ?_ | refine (HC.out _ (grown_trans hW (grown_drew _ none))).mono ?_); rintro e w1 ⟨rfl, hg⟩; (first | replace hW := grown_trans hW hg | replace hW := grown_trans (grown_trans hW (grown_drew _ none)) hg); replace k0 := hg.cell k0 (by simp); replace k1 := hg.cell k1 (by simp); replace k2 := hg.cell k2 (by simp); replace k3 := hg.cell k3 (by simp); replace k4 := hg.cell k4 (by simp); replace k5 := hg.cell k5 (by simp); replace k6 := hg.cell k6 (by simp); replace k7 := hg.cell k7 (by simp); replace k8 := hg.cell k8 (by simp); clear hg) | (go_at_call 58; (first | refine (HN.out _ hW).mono ?_ | refine (HN.out _ (grown_trans hW (grown_drew _ none))).mono ?_); rintro e w1 ⟨rfl, hg⟩; (first | replace hW := grown_trans hW hg | replace hW := grown_trans (grown_trans hW (grown_drew _ none)) hg); replace k0 := hg.cell k0 (by simp); replace k1 := hg.cell k1 (by simp); replace k2 := hg.cell k2 (by simp); replace k3 := hg.cell k3 (by simp); replace k4 := hg.cell k4 (by simp); replace k5 := hg.cell k5 (by simp); replace k6 := hg.cell k6 (by simp); replace k7 := hg.cell k7 (by simp); replace k8 := hg.cell k8 (by simp); clear hg) | (go_at_call 59; (first | refine (HZ.out _ hW).mono ?_ | refine (HZ.out _ (grown_trans hW (grown_drew _ none))).mono ?_); rintro e w1 ⟨rfl, hg⟩; (first | replace hW := grown_trans hW hg | replace hW := grown_trans (grown_trans hW (grown_drew _ none)) hg); replace k0 := hg.cell k0 (by simp); replace k1 := hg.cell k1 (by simp); replace k2 := hg.cell k2 (by simp); replace k3 := hg.cell k3 (by simp); replace k4 := hg.cell k4 (by simp); replace k5 := hg.cell k5 (by simp); replace k6 := hg.cell k6 (by simp); replace k7 := hg.cell k7 (by simp); replace k8 := hg.cell k8 (by simp); clear hg))
    go_ret
    exact ⟨by simp, hW⟩
  by_cases h3 : k = 1
  · subst h3
    cases z
    all_goals
      go_enter Tryz.func43, Tryz.ntmps43
      go_upto_region 1 with fail
      generalize (w.alloc _) = w0 at *
      go_wp2_with (first | (go_at_call 57; (first | refine (HC.out _ hW).mono ?_ | refine (HC.out _ (grown_trans hW (grown_drew _ none))).mono ?_); rintro e w1 ⟨rfl, hg⟩; (first | replace hW := grown_trans hW hg | replace hW := grown_trans (grown_trans hW (grown_drew _ none)) hg); replace k0 := hg.cell k0 (by simp); replace k1 := hg.cell k1 (by simp); replace k2 := hg.cell k2 (by simp); replace k3 := hg.cell k3 (by simp); replace k4 := hg.cell k4 (by simp); replace k5 := hg.cell k5 (by simp); replace k6 := hg.cell k6 (by simp); replace k7 := hg.cell k7 (by simp); replace k8 := hg.cell k8 (by simp); clear hg) | (go_at_call 58; (first | refine (HN.out _ hW).mono ?_ | refine (HN.out _ (grown_trans hW (grown_drew _ none))).mono ?_); rintro e w1 ⟨rfl, hg⟩; (first | replace hW := grown_trans hW hg | replace hW := grown_trans (grown_trans hW (grown_drew _ none)) hg); replace k0 := hg.cell k0 (by simp); replace k1 := hg.cell k1 (by simp); replace k2 := hg.cell k2 (by simp); replace k3 := hg.cell k3 (by simp); replace k4 := hg.cell k4 (by simp); replace k5 := hg.cell k5 (by simp); replace k6 := hg.cell k6 (by simp); replace k7 := hg.cell k7 (by simp); replace k8 := hg.cell k8 (by simp); clear hg) | (go_at_call 59; (first | refine (HZ.out _ hW).mono ?_ | refine (HZ.out _ (grown_trans hW (grown_drew _ none))).mono ?_); rintro e w1 ⟨rfl, hg⟩; (first | replace hW := grown_trans hW hg | replace hW := grown_trans (grown_trans hW (grown_drew _ none)) hg); replace k0 := hg.cell k0 (by simp); replace k1 := hg.cell k1 (by simp); replace k2 := hg.cell k2 (by simp); replace k3 := hg.cell k3 (by simp); replace k4 := hg.cell k4 (by simp); replace k5 := hg.cell k5 (by simp); replace k6 := hg.cell k6 (by simp); replace k7 := hg.cell k7 (by simp); replace k8 := hg.cell k8 (by simp); clear hg))
      go_ret
      exact ⟨by simp, hW⟩
  by_cases h4 : e1 = 1
  · subst h4
    go_enter Tryz.func43, Tryz.ntmps43
    go_upto_region 1 with fail
    generalize (w.alloc _) = w0 at *
    go_wp2_with (first | (go_at_call 57; (first | refine (HC.out _ hW).mono ?_ | refine (HC.out _ (grown_trans hW (grown_drew _ none))).mono ?_); rintro e w1 ⟨rfl, hg⟩; (first | replace hW := grown_trans hW hg | replace hW := grown_trans (grown_trans hW (grown_drew _ none)) hg); replace k0 := hg.cell k0 (by simp); replace k1 := hg.cell k1 (by simp); replace k2 := hg.cell k2 (by simp); replace k3 := hg.cell k3 (by simp); replace k4 := hg.cell k4 (by simp); replace k5 := hg.cell k5 (by simp); replace k6 := hg.cell k6 (by simp); replace k7 := hg.cell k7 (by simp); replace k8 := hg.cell k8 (by simp); clear hg) | (go_at_call 58; (first | refine (HN.out _ hW).mono ?_ | refine (HN.out _ (grown_trans hW (grown_drew _ none))).mono ?_); rintro e w1 ⟨rfl, hg⟩; (first | replace hW := grown_trans hW hg | replace hW := grown_trans (grown_trans hW (grown_drew _ none)) hg); replace k0 := hg.cell k0 (by simp); replace k1 := hg.cell k1 (by simp); replace k2 := hg.cell k2 (by simp); replace k3 := hg.cell k3 (by simp); replace k4 := hg.cell k4 (by simp); replace k5 := hg.cell k5 (by simp); replace k6 := hg.cell k6 (by simp); replace k7 := hg.cell k7 (by simp); replace k8 := hg.cell k8 (by simp); clear hg) | (go_at_call 59; (first | refine (HZ.out _ hW).mono ?_ | refine (HZ.out _ (grown_trans hW (grown_drew _ none))).mono ?_); rintro e w1 ⟨rfl, hg⟩; (first | replace hW := grown_trans hW hg | replace hW := grown_trans (grown_trans hW (grown_drew _ none)) hg); replace k0 := hg.cell k0 (by simp); replace k1 := hg.cell k1 (by simp); replace k2 := hg.cell k2 (by simp); replace k3 := hg.cell k3 (by simp); replace k4 := hg.cell k4 (by simp); replace k5 := hg.cell k5 (by simp); replace k6 := hg.cell k6 (by simp); replace k7 := hg.cell k7 (by simp); replace k8 := hg.cell k8 (by simp); clear hg))
    go_ret
    exact ⟨by simp [h3], hW⟩
  · go_enter Tryz.func43, Tryz.ntmps43
    go_upto_region 1 with fail
    generalize (w.alloc _) = w0 at *
    go_upto_region 11 with (first | (go_at_call 57; (first | refine (HC.out _ hW).mono ?_ | refine (HC.out _ (grown_trans hW (grown_drew _ none))).mono ?_); rintro e w1 ⟨rfl, hg⟩; (first | replace hW := grown_trans hW hg | replace hW := grown_trans (grown_trans hW (grown_drew _ none)) hg); replace k0 := hg.cell k0 (by simp); replace k1 := hg.cell k1 (by simp); replace k2 := hg.cell k2 (by simp); replace k3 := hg.cell k3 (by simp); replace k4 := hg.cell k4 (by simp); replace k5 := hg.cell k5 (by simp); replace k6 := hg.cell k6 (by simp); replace k7 := hg.cell k7 (by simp); replace k8 := hg.cell k8 (by simp); clear hg) | (go_at_call 58; (first | refine (HN.out _ hW).mono ?_ | refine (HN.out _ (grown_trans hW (grown_drew _ none))).mono ?_); rintro e w1 ⟨rfl, hg⟩; (first | replace hW := grown_trans hW hg | replace hW := grown_trans (grown_trans hW (grown_drew _ none)) hg); replace k0 := hg.cell k0 (by simp); replace k1 := hg.cell k1 (by simp); replace k2 := hg.cell k2 (by simp); replace k3 := hg.cell k3 (by simp); replace k4 := hg.cell k4 (by simp); replace k5 := hg.cell k5 (by simp); replace k6 := hg.cell k6 (by simp); replace k7 := hg.cell k7 (by simp); replace k8 := hg.cell k8 (by simp); clear hg) | (go_at_call 59; (first | refine (HZ.out _ hW).mono ?_ | refine (HZ.out _ (grown_trans hW (grown_drew _ none))).mono ?_); rintro e w1 ⟨rfl, hg⟩; (first | replace hW := grown_trans hW hg | replace hW := grown_trans (grown_trans hW (grown_drew _ none)) hg); replace k0 := hg.cell k0 (by simp); replace k1 := hg.cell k1 (by simp); replace k2 := hg.cell k2 (by simp); replace k3 := hg.cell k3 (by simp); replace k4 := hg.cell k4 (by simp); replace k5 := hg.cell k5 (by simp); replace k6 := hg.cell k6 (by simp); replace k7 := hg.cell k7 (by simp); replace k8 := hg.cell k8 (by simp); clear hg))
    go_region_held3 (fun w' => w'.cell? ⟨w.heap.size, 0, none⟩ = some (.int .i64 k) ∧ w'.cell? ⟨w.heap.size, 1, none⟩ = some (.slice pn nn cn) ∧ w'.cell? ⟨w.heap.size, 2, none⟩ = some (.int .i64 e1) ∧ w'.cell? ⟨w.heap.size, 3, none⟩ = some (.string e2) ∧ w'.cell? ⟨w.heap.size, 4, none⟩ = some (.bool e3) ∧ w'.cell? ⟨w.heap.size, 5, none⟩ = some (.slice p1 n1 c1) ∧ w'.cell? ⟨w.heap.size, 6, none⟩ = some (.slice p2 n2 c2) ∧ w'.cell? ⟨w.heap.size, 7, none⟩ = some (.slice p3 n3 c3) ∧ w'.cell? ⟨w.heap.size, 8, none⟩ = some (.int .i64 e7) ∧ w.grownBy w' none) ((try go_split_ands) <;> (repeat' apply And.intro) <;> (first | (with_reducible assumption) | (with_reducible refine (grown_drew _ none).cell ?_ (by simp); with_reducible assumption) | (with_reducible refine grown_trans ?_ (grown_drew _ none); with_reducible assumption))) (first | (go_at_call 61; (first | refine (HS.out _ hW).mono ?_ | refine (HS.out _ (grown_trans hW (grown_drew _ none))).mono ?_); rintro e w1 ⟨rfl, hg⟩; (first | replace hW := grown_trans hW hg | replace hW := grown_trans (grown_trans hW (grown_drew _ none)) hg); replace k0 := hg.cell k0 (by simp); replace k1 := hg.cell k1 (by simp); replace k2 := hg.cell k2 (by simp); replace k3 := hg.cell k3 (by simp); replace k4 := hg.cell k4 (by simp); replace k5 := hg.cell k5 (by simp); replace k6 := hg.cell k6 (by simp); replace k7 := hg.cell k7 (by simp); replace k8 := hg.cell k8 (by simp); clear hg) | (go_at_call 60; (first | refine (HX.out _ hW).mono ?_ | refine (HX.out _ (grown_trans hW (grown_drew _ none))).mono ?_); rintro e w1 ⟨rfl, hg⟩; (first | replace hW := grown_trans hW hg | replace hW := grown_trans (grown_trans hW (grown_drew _ none)) hg); replace k0 := hg.cell k0 (by simp); replace k1 := hg.cell k1 (by simp); replace k2 := hg.cell k2 (by simp); replace k3 := hg.cell k3 (by simp); replace k4 := hg.cell k4 (by simp); replace k5 := hg.cell k5 (by simp); replace k6 := hg.cell k6 (by simp); replace k7 := hg.cell k7 (by simp); replace k8 := hg.cell k8 (by simp); clear hg))
    go_wp2_with fail
    go_ret
    exact ⟨by simp [h3, h4], by first | exact hW | exact grown_trans hW (grown_drew _ none)⟩
end Go.Proofs.YtbioamglnndofaaGreatDoor

set_option linter.unusedVariables false
set_option linter.unusedSimpArgs false
namespace Go.Proofs.YtbioamglnndofaaGreatDoor
open Go.RowKit _root_.Nm Lx
set_option maxHeartbeats 16000000 in
set_option maxRecDepth 100000 in
theorem rCheckStmt_n (k : Int) (pn : Option Addr) (nn cn : Nat) (e1 : Int) (e2 : ByteArray) (e3 : Bool) (p1 : Option Addr) (n1 c1 : Nat) (p2 : Option Addr) (n2 c2 : Nat) (p3 : Option Addr) (n3 c3 : Nat) (e7 o : Int) (bn z : Bool) (X : Int) (L : List ByteArray) (w : World)
    (hL : NRd w pn nn cn L) (hLS : ∀ i (hi : i < L.length), (L[i]).size ≤ maxLen) (hbn : bn = true ↔ ∀ i (hi : i < L.length), isNm (L[i]).data.toList = true)
    (HZ : ∀ W, w.grownBy W none → Calls Tryz.prog 47 #[.agg #[.int .i64 e1, .string e2, .bool e3, .slice p1 n1 c1, .slice p2 n2 c2, .slice p3 n3 c3, .int .i64 e7]] W fun e w' => e = .returned (.bool z) ∧ W.grownBy w' none)
    (HX : ∀ W, w.grownBy W none → Calls Tryz.prog 48 #[.agg #[.int .i64 e1, .string e2, .bool e3, .slice p1 n1 c1, .slice p2 n2 c2, .slice p3 n3 c3, .int .i64 e7], .int .i64 (sortS k)] W fun e w' => e = .returned (.int .i64 X) ∧ W.grownBy w' none) :
    Calls Tryz.prog 28 #[.agg #[.int .i64 k, .slice pn nn cn, .int .i64 e1, .string e2, .bool e3, .slice p1 n1 c1, .slice p2 n2 c2, .slice p3 n3 c3, .int .i64 e7, .int .i64 o]] w fun e w' => e = .returned (.int .i64 (stE k nn bn z e1 X)) ∧ w.grownBy w' none := by
  have hln := hL.len
  have hlc := SRd.cap hL
  have hlm := SRd.max hL
  replace HZ := hid HZ
  replace HX := hid HX
  have HS : Hid (∀ W, w.grownBy W none → _) := hid fun W _ => rStmtSort_any k W
  have HL := hid hL
  have HLS := hid hLS
  have HBN := hid hbn
  clear hL hLS hbn
  obtain ⟨sk, hsk⟩ : ∃ b, b = sortS k := ⟨_, rfl⟩
  unfold stE
  rw [← hsk] at HS HX
  clear hsk
  have hW := World.grownBy_alloc w (.cells #[.int .i64 k, .slice pn nn cn, .int .i64 e1, .string e2, .bool e3, .slice p1 n1 c1, .slice p2 n2 c2, .slice p3 n3 c3, .int .i64 e7, .int .i64 o] 46 (0, 0)) none
  obtain ⟨⟨k0, k1, k2, k3, k4, k5, k6, k7, k8, k9⟩, -⟩ := box10' (blk0 w (.cells #[.int .i64 k, .slice pn nn cn, .int .i64 e1, .string e2, .bool e3, .slice p1 n1 c1, .slice p2 n2 c2, .slice p3 n3 c3, .int .i64 e7, .int .i64 o] 46 (0, 0)))
  by_cases h1 : k < 1
  · go_enter Tryz.func28, Tryz.ntmps28
    go_upto_region 1 with fail
    generalize (w.alloc _) = w0 at *
    go_wp2_with fail
    go_ret
    exact ⟨by simp [h1], hW⟩
  by_cases h2 : 5 < k
  · go_enter Tryz.func28, Tryz.ntmps28
    go_upto_region 1 with fail
    generalize (w.alloc _) = w0 at *
    go_wp2_with fail
    go_ret
    exact ⟨by simp [h2], hW⟩
  have HOUT := hid (show ¬ (k < 1 ∨ 5 < k) by omega)
  rw [if_neg HOUT.out]
  by_cases hk1 : k = 1
  · subst hk1
    by_cases hn : nn = 0
    · subst hn
      go_enter Tryz.func28, Tryz.ntmps28
      go_upto_region 1 with fail
      generalize (w.alloc _) = w0 at *
      go_wp2_with fail
      go_ret
      exact ⟨by simp [cntS], hW⟩
    · have hz0 : ((nn : Int) == 0) = false := by simpa using hn
      have HC : Hid (cntS 1 nn = true) := hid (by unfold cntS; simp; omega)
      rw [HC.out]
      clear HOUT h1 h2
      go_enter Tryz.func28, Tryz.ntmps28
      go_upto_region 1 with fail
      generalize (w.alloc _) = w0 at *
      go_wp2_with fail
      clear hz0
      have HW0 := hid hW
      have Hk0 := hid k0; have Hk1 := hid k1; have Hk2 := hid k2; have Hk3 := hid k3; have Hk4 := hid k4; have Hk5 := hid k5; have Hk6 := hid k6; have Hk7 := hid k7; have Hk8 := hid k8
      clear hW k0 k1 k2 k3 k4 k5 k6 k7 k8
      go_loopw [48] (fun y wr => ∃ i : Nat, i ≤ nn ∧ y = .int .i64 i ∧ w0.grownBy wr none ∧ ∀ j (hj : j < L.length), j < i → isNm (L[j]).data.toList = true) (fun y _ => nn - (intOf y).toNat)
      case atStart => exact ⟨0, Nat.zero_le _, rfl, grown_refl _ _, fun j _ h => absurd h (Nat.not_lt_zero j)⟩
      case round =>
        obtain ⟨i, hi, rfl, hg, hall⟩ := hrel
        have HALL := hid hall
        clear hall
        by_cases hlt : i < nn
        · obtain ⟨bA, oA, rfl, c0⟩ := NRd.at1 (HL.out.keep (grown_trans HW0.out hg)) (i := i) (by omega)
          have hsz := HLS.out i (by omega)
          obtain ⟨q, hq⟩ : ∃ q, q = isNm (L[i]'(by omega)).data.toList := ⟨_, rfl⟩
          have HI := hid (rIsName_any (L[i]'(by omega)) _ rfl wr)
          rw [← hq] at HI
          have HQ := hid hq
          clear hq hsz
          obtain ⟨d, hd⟩ : ∃ d, d = L[i]'(by omega) := ⟨_, rfl⟩
          rw [← hd] at c0 HI HQ
          have HDD := hid hd
          clear hd
          cases q
          · obtain rfl : bn = false := by
              rw [← Bool.not_eq_true, HBN.out]
              intro h9
              have h1 := h9 i (by omega)
              rw [← HDD.out, ← HQ.out] at h1
              cases h1
            go_wp2_with (go_at_call 46; refine HI.out.mono ?_; rintro e w1 ⟨rfl, hg1⟩)
            go_ret
            exact ⟨by simp, grown_trans HW0.out (grown_trans hg hg1)⟩
          · go_wp2_with (go_at_call 46; refine HI.out.mono ?_; rintro e w1 ⟨rfl, hg1⟩)
            exact ⟨⟨i + 1, by omega, by go_num, grown_trans hg hg1, fun j hj h => by
              rcases Nat.lt_or_eq_of_le (Nat.le_of_lt_succ h) with h | rfl
              · exact HALL.out j hj h
              · rw [← HDD.out]; exact HQ.out.symm⟩, by simp [intOf]; omega⟩
        · obtain rfl : i = nn := by omega
          obtain rfl : bn = true := HBN.out.2 fun j hj => HALL.out j hj (by omega)
          have hW := grown_trans HW0.out hg
          have k0 := hg.cell Hk0.out (by simp); have k1 := hg.cell Hk1.out (by simp); have k2 := hg.cell Hk2.out (by simp); have k3 := hg.cell Hk3.out (by simp); have k4 := hg.cell Hk4.out (by simp); have k5 := hg.cell Hk5.out (by simp); have k6 := hg.cell Hk6.out (by simp); have k7 := hg.cell Hk7.out (by simp); have k8 := hg.cell Hk8.out (by simp); clear HALL
          cases z
          all_goals
            go_wp2_with (go_at_call 47; refine (HZ.out _ hW).mono ?_; rintro e w1 ⟨rfl, hg⟩; replace hW := grown_trans hW hg)
            go_ret
            exact ⟨by simp, hW⟩
  have HK1 := hid hk1
  by_cases hk5 : k = 5
  · subst hk5
    by_cases hn : nn = 0
    · have hz0 : (nn : Int) = 0 := by omega
      have HC : Hid (cntS 5 nn = true) := hid (by unfold cntS; simp [hn])
      rw [HC.out]
      clear hz0 HOUT h1 h2 hk1
      obtain rfl := hn
      go_enter Tryz.func28, Tryz.ntmps28
      go_upto_region 1 with fail
      generalize (w.alloc _) = w0 at *
      go_wp2_with fail
      have HW0 := hid hW
      have Hk0 := hid k0; have Hk1 := hid k1; have Hk2 := hid k2; have Hk3 := hid k3; have Hk4 := hid k4; have Hk5 := hid k5; have Hk6 := hid k6; have Hk7 := hid k7; have Hk8 := hid k8
      clear hW k0 k1 k2 k3 k4 k5 k6 k7 k8
      go_loopw [48] (fun y wr => ∃ i : Nat, i ≤ 0 ∧ y = .int .i64 i ∧ w0.grownBy wr none ∧ ∀ j (hj : j < L.length), j < i → isNm (L[j]).data.toList = true) (fun y _ => 0 - (intOf y).toNat)
      case atStart => exact ⟨0, Nat.zero_le _, rfl, grown_refl _ _, fun j _ h => absurd h (Nat.not_lt_zero j)⟩
      case round =>
        obtain ⟨i, hi, rfl, hg, hall⟩ := hrel
        have HALL := hid hall
        clear hall
        by_cases hlt : i < 0
        · exact absurd hlt (Nat.not_lt_zero _)
        · obtain rfl : i = 0 := by omega
          obtain rfl : bn = true := HBN.out.2 fun j hj => HALL.out j hj (by omega)
          have hW := grown_trans HW0.out hg
          have k0 := hg.cell Hk0.out (by simp); have k1 := hg.cell Hk1.out (by simp); have k2 := hg.cell Hk2.out (by simp); have k3 := hg.cell Hk3.out (by simp); have k4 := hg.cell Hk4.out (by simp); have k5 := hg.cell Hk5.out (by simp); have k6 := hg.cell Hk6.out (by simp); have k7 := hg.cell Hk7.out (by simp); have k8 := hg.cell Hk8.out (by simp); clear HALL
          by_cases h4 : e1 = 1
          · subst h4
            go_wp2_with fail
            go_ret
            exact ⟨by simp [], hW⟩
          · have h4' : (e1 == 1) = false := by simpa using h4
            have H4 := hid h4
            clear h4
            go_upto_region 20 with fail
            go_region_held3 (fun w' => w'.cell? ⟨w.heap.size, 0, none⟩ = some (.int .i64 5) ∧ w'.cell? ⟨w.heap.size, 1, none⟩ = some (.slice pn 0 cn) ∧ w'.cell? ⟨w.heap.size, 2, none⟩ = some (.int .i64 e1) ∧ w'.cell? ⟨w.heap.size, 3, none⟩ = some (.string e2) ∧ w'.cell? ⟨w.heap.size, 4, none⟩ = some (.bool e3) ∧ w'.cell? ⟨w.heap.size, 5, none⟩ = some (.slice p1 n1 c1) ∧ w'.cell? ⟨w.heap.size, 6, none⟩ = some (.slice p2 n2 c2) ∧ w'.cell? ⟨w.heap.size, 7, none⟩ = some (.slice p3 n3 c3) ∧ w'.cell? ⟨w.heap.size, 8, none⟩ = some (.int .i64 e7) ∧ w.grownBy w' none) ((try go_split_ands) <;> (repeat' apply And.intro) <;> (first | (with_reducible assumption) | (with_reducible refine (grown_drew _ none).cell ?_ (by simp); with_reducible assumption) | (with_reducible refine grown_trans ?_ (grown_drew _ none); with_reducible assumption))) (first | (go_at_call 30; (first | refine (HS.out _ hW).mono ?_ | refine (HS.out _ (grown_trans hW (grown_drew _ none))).mono ?_); rintro e w1 ⟨rfl, hg⟩; (first | replace hW := grown_trans hW hg | replace hW := grown_trans (grown_trans hW (grown_drew _ none)) hg); replace k0 := hg.cell k0 (by simp); replace k1 := hg.cell k1 (by simp); replace k2 := hg.cell k2 (by simp); replace k3 := hg.cell k3 (by simp); replace k4 := hg.cell k4 (by simp); replace k5 := hg.cell k5 (by simp); replace k6 := hg.cell k6 (by simp); replace k7 := hg.cell k7 (by simp); replace k8 := hg.cell k8 (by simp); clear hg) | (go_at_call 48; (first | refine (HX.out _ hW).mono ?_ | refine (HX.out _ (grown_trans hW (grown_drew _ none))).mono ?_); rintro e w1 ⟨rfl, hg⟩; (first | replace hW := grown_trans hW hg | replace hW := grown_trans (grown_trans hW (grown_drew _ none)) hg); replace k0 := hg.cell k0 (by simp); replace k1 := hg.cell k1 (by simp); replace k2 := hg.cell k2 (by simp); replace k3 := hg.cell k3 (by simp); replace k4 := hg.cell k4 (by simp); replace k5 := hg.cell k5 (by simp); replace k6 := hg.cell k6 (by simp); replace k7 := hg.cell k7 (by simp); replace k8 := hg.cell k8 (by simp); clear hg))
            go_wp2_with fail
            go_ret
            have h4 := H4.out
            exact ⟨by simp [h4, ], by first | exact hW | exact grown_trans hW (grown_drew _ none)⟩
    · have hz0 : ((nn : Int) == 0) = false := by simpa using hn
      have HC : Hid (cntS 5 nn = false) := hid (by unfold cntS; simp [hn])
      rw [HC.out, if_pos rfl]
      clear hk1
      go_enter Tryz.func28, Tryz.ntmps28
      go_upto_region 1 with fail
      generalize (w.alloc _) = w0 at *
      go_wp2_with fail
      go_ret
      exact ⟨rfl, hW⟩
  · have hka : (k == 1) = false := by simpa using hk1
    have hkb : (k == 5) = false := by simpa using hk5
    have hkc : (k != 1) = true := by simpa using hk1
    have hkd : (k != 5) = true := by simpa using hk5
    by_cases hn : nn = 1
    · have hz0 : ((nn : Int) != 1) = false := by simp [hn]
      have HC : Hid (cntS k nn = true) := hid (by unfold cntS; simp [hk1, hk5, hn])
      rw [HC.out]
      clear HOUT hn hk1 hk5
      go_enter Tryz.func28, Tryz.ntmps28
      go_upto_region 1 with fail
      generalize (w.alloc _) = w0 at *
      go_wp2_with fail
      clear hz0 h1 h2 hkc hkd
      have HW0 := hid hW
      have Hk0 := hid k0; have Hk1 := hid k1; have Hk2 := hid k2; have Hk3 := hid k3; have Hk4 := hid k4; have Hk5 := hid k5; have Hk6 := hid k6; have Hk7 := hid k7; have Hk8 := hid k8; have Hhka := hid hka; have Hhkb := hid hkb; clear hka hkb
      clear hW k0 k1 k2 k3 k4 k5 k6 k7 k8
      go_loopw [48] (fun y wr => ∃ i : Nat, i ≤ nn ∧ y = .int .i64 i ∧ w0.grownBy wr none ∧ ∀ j (hj : j < L.length), j < i → isNm (L[j]).data.toList = true) (fun y _ => nn - (intOf y).toNat)
      case atStart => exact ⟨0, Nat.zero_le _, rfl, grown_refl _ _, fun j _ h => absurd h (Nat.not_lt_zero j)⟩
      case round =>
        obtain ⟨i, hi, rfl, hg, hall⟩ := hrel
        have HALL := hid hall
        clear hall
        by_cases hlt : i < nn
        · obtain ⟨bA, oA, rfl, c0⟩ := NRd.at1 (HL.out.keep (grown_trans HW0.out hg)) (i := i) (by omega)
          have hsz := HLS.out i (by omega)
          obtain ⟨q, hq⟩ : ∃ q, q = isNm (L[i]'(by omega)).data.toList := ⟨_, rfl⟩
          have HI := hid (rIsName_any (L[i]'(by omega)) _ rfl wr)
          rw [← hq] at HI
          have HQ := hid hq
          clear hq hsz
          obtain ⟨d, hd⟩ : ∃ d, d = L[i]'(by omega) := ⟨_, rfl⟩
          rw [← hd] at c0 HI HQ
          have HDD := hid hd
          clear hd
          cases q
          · obtain rfl : bn = false := by
              rw [← Bool.not_eq_true, HBN.out]
              intro h9
              have h1 := h9 i (by omega)
              rw [← HDD.out, ← HQ.out] at h1
              cases h1
            go_wp2_with (go_at_call 46; refine HI.out.mono ?_; rintro e w1 ⟨rfl, hg1⟩)
            go_ret
            exact ⟨by simp, grown_trans HW0.out (grown_trans hg hg1)⟩
          · go_wp2_with (go_at_call 46; refine HI.out.mono ?_; rintro e w1 ⟨rfl, hg1⟩)
            exact ⟨⟨i + 1, by omega, by go_num, grown_trans hg hg1, fun j hj h => by
              rcases Nat.lt_or_eq_of_le (Nat.le_of_lt_succ h) with h | rfl
              · exact HALL.out j hj h
              · rw [← HDD.out]; exact HQ.out.symm⟩, by simp [intOf]; omega⟩
        · obtain rfl : i = nn := by omega
          obtain rfl : bn = true := HBN.out.2 fun j hj => HALL.out j hj (by omega)
          have hW := grown_trans HW0.out hg
          have k0 := hg.cell Hk0.out (by simp); have k1 := hg.cell Hk1.out (by simp); have k2 := hg.cell Hk2.out (by simp); have k3 := hg.cell Hk3.out (by simp); have k4 := hg.cell Hk4.out (by simp); have k5 := hg.cell Hk5.out (by simp); have k6 := hg.cell Hk6.out (by simp); have k7 := hg.cell Hk7.out (by simp); have k8 := hg.cell Hk8.out (by simp); have hka := Hhka.out; have hkb := Hhkb.out; clear HALL
          by_cases h4 : e1 = 1
          · subst h4
            go_wp2_with fail
            go_ret
            exact ⟨by have := HK1.out; simp [this], hW⟩
          · have h4' : (e1 == 1) = false := by simpa using h4
            have H4 := hid h4
            clear h4
            go_upto_region 20 with fail
            go_region_held3 (fun w' => w'.cell? ⟨w.heap.size, 0, none⟩ = some (.int .i64 k) ∧ w'.cell? ⟨w.heap.size, 1, none⟩ = some (.slice pn i cn) ∧ w'.cell? ⟨w.heap.size, 2, none⟩ = some (.int .i64 e1) ∧ w'.cell? ⟨w.heap.size, 3, none⟩ = some (.string e2) ∧ w'.cell? ⟨w.heap.size, 4, none⟩ = some (.bool e3) ∧ w'.cell? ⟨w.heap.size, 5, none⟩ = some (.slice p1 n1 c1) ∧ w'.cell? ⟨w.heap.size, 6, none⟩ = some (.slice p2 n2 c2) ∧ w'.cell? ⟨w.heap.size, 7, none⟩ = some (.slice p3 n3 c3) ∧ w'.cell? ⟨w.heap.size, 8, none⟩ = some (.int .i64 e7) ∧ w.grownBy w' none) ((try go_split_ands) <;> (repeat' apply And.intro) <;> (first | (with_reducible assumption) | (with_reducible refine (grown_drew _ none).cell ?_ (by simp); with_reducible assumption) | (with_reducible refine grown_trans ?_ (grown_drew _ none); with_reducible assumption))) (first | (go_at_call 30; (first | refine (HS.out _ hW).mono ?_ | refine (HS.out _ (grown_trans hW (grown_drew _ none))).mono ?_); rintro e w1 ⟨rfl, hg⟩; (first | replace hW := grown_trans hW hg | replace hW := grown_trans (grown_trans hW (grown_drew _ none)) hg); replace k0 := hg.cell k0 (by simp); replace k1 := hg.cell k1 (by simp); replace k2 := hg.cell k2 (by simp); replace k3 := hg.cell k3 (by simp); replace k4 := hg.cell k4 (by simp); replace k5 := hg.cell k5 (by simp); replace k6 := hg.cell k6 (by simp); replace k7 := hg.cell k7 (by simp); replace k8 := hg.cell k8 (by simp); clear hg) | (go_at_call 48; (first | refine (HX.out _ hW).mono ?_ | refine (HX.out _ (grown_trans hW (grown_drew _ none))).mono ?_); rintro e w1 ⟨rfl, hg⟩; (first | replace hW := grown_trans hW hg | replace hW := grown_trans (grown_trans hW (grown_drew _ none)) hg); replace k0 := hg.cell k0 (by simp); replace k1 := hg.cell k1 (by simp); replace k2 := hg.cell k2 (by simp); replace k3 := hg.cell k3 (by simp); replace k4 := hg.cell k4 (by simp); replace k5 := hg.cell k5 (by simp); replace k6 := hg.cell k6 (by simp); replace k7 := hg.cell k7 (by simp); replace k8 := hg.cell k8 (by simp); clear hg))
            go_wp2_with fail
            go_ret
            have h4 := H4.out
            exact ⟨by have := HK1.out; simp [h4, this], by first | exact hW | exact grown_trans hW (grown_drew _ none)⟩
    · have hz0 : ((nn : Int) != 1) = true := by
        simp
        omega
      have HC : Hid (cntS k nn = false) := hid (by unfold cntS; simp [hk1, hk5, hn])
      rw [HC.out, if_pos rfl]
      clear hk1 hk5
      go_enter Tryz.func28, Tryz.ntmps28
      go_upto_region 1 with fail
      generalize (w.alloc _) = w0 at *
      go_wp2_with fail
      go_ret
      exact ⟨rfl, hW⟩
end Go.Proofs.YtbioamglnndofaaGreatDoor

set_option linter.unusedVariables false
set_option linter.unusedSimpArgs false
namespace Go.Proofs.YtbioamglnndofaaGreatDoor
open Go.RowKit _root_.Nm Lx
set_option maxHeartbeats 8000000 in
set_option maxRecDepth 100000 in
theorem empty_any (e1 : Int) (e2 : ByteArray) (e3 : Bool) (p1 : Option Addr) (n1 c1 : Nat) (p2 : Option Addr) (n2 c2 : Nat) (p3 : Option Addr) (n3 c3 : Nat) (e7 : Int) (z : Bool) (w : World) (hz : z = true ↔ e1 = 0 ∧ e2.data.toList = [] ∧ (e3 = false ∧ n1 = 0 ∧ n2 = 0) ∧ n3 = 0) :
    Calls Tryz.prog 47 #[.agg #[.int .i64 e1, .string e2, .bool e3, .slice p1 n1 c1, .slice p2 n2 c2, .slice p3 n3 c3, .int .i64 e7]] w fun e w' => e = .returned (.bool z) ∧ w.grownBy w' none := by
  obtain ⟨r, hr⟩ := ex_bool (e3 = false ∧ n1 = 0 ∧ n2 = 0)
  have hzz : z = (decide (e1 = 0) && (decide (e2.data.toList = []) && (r && decide (n3 = 0)))) := by
    rw [Bool.eq_iff_iff, hz]
    simp only [Bool.and_eq_true, decide_eq_true_eq, hr]
  subst hzz
  have HR := hid fun w => none_any e3 p1 p2 n1 c1 n2 c2 r hr w
  clear hz hr
  have hW := World.grownBy_alloc w (.cells #[.int .i64 e1, .string e2, .bool e3, .slice p1 n1 c1, .slice p2 n2 c2, .slice p3 n3 c3, .int .i64 e7] 44 (0, 0)) none
  obtain ⟨⟨k0, k1, k2, k3, k4, k5, k6⟩, -⟩ := box7 (blk0 w (.cells #[.int .i64 e1, .string e2, .bool e3, .slice p1 n1 c1, .slice p2 n2 c2, .slice p3 n3 c3, .int .i64 e7] 44 (0, 0)))
  by_cases h1 : e1 = 0
  · subst h1
    by_cases h2 : e2.data.toList = []
    · have hq : e2.toList.isEmpty = true := by simp [Lib.toList_data, h2]
      cases r
      all_goals
        go_enter Tryz.func47, Tryz.ntmps47
        go_upto_region 1 with fail
        generalize (w.alloc _) = w0 at *
        go_wp2_with (go_at_call 67; refine (HR.out _).mono ?_; rintro e w1 ⟨rfl, hg⟩; replace hW := grown_trans hW hg; replace k0 := hg.cell k0 (by simp); replace k1 := hg.cell k1 (by simp); replace k2 := hg.cell k2 (by simp); replace k3 := hg.cell k3 (by simp); replace k4 := hg.cell k4 (by simp); replace k5 := hg.cell k5 (by simp); replace k6 := hg.cell k6 (by simp))
        go_ret
        have hA : ((n3 : Int) == 0) = decide (n3 = 0) := by rw [Bool.eq_iff_iff]; simp
        exact ⟨by simp [h2, hA], hW⟩
    · have hq : e2.toList.isEmpty = false := by rw [List.isEmpty_eq_false_iff, Lib.toList_data]; exact h2
      go_enter Tryz.func47, Tryz.ntmps47
      go_upto_region 1 with fail
      generalize (w.alloc _) = w0 at *
      go_wp2_with fail
      go_ret
      exact ⟨by simp [h2], hW⟩
  · have hq : (e1 == 0) = false := by simpa using h1
    go_enter Tryz.func47, Tryz.ntmps47
    go_upto_region 1 with fail
    generalize (w.alloc _) = w0 at *
    go_wp2_with fail
    go_ret
    exact ⟨by simp [h1], hW⟩
theorem eq_zeroT {w : World} {m : Nat} {h : Hd} {l : List Tr} {e1 : Int} {e2 : ByteArray} {e3 : Bool} {p1 : Option Addr} {n1 c1 : Nat} {p2 : Option Addr} {n2 c2 : Nat} {p3 : Option Addr} {n3 c3 : Nat} {e7 : Int} (hE : ERd w (m + 1) [.int .i64 e1, .string e2, .bool e3, .slice p1 n1 c1, .slice p2 n2 c2, .slice p3 n3 c3, .int .i64 e7] (.node h l)) :
    EqP (m + 1) (.node h l) zeroT ↔ e1 = 0 ∧ e2.data.toList = [] ∧ (e3 = false ∧ n1 = 0 ∧ n2 = 0) ∧ n3 = 0 := by
  obtain ⟨⟨r1, r2, r3, r7⟩, hn, hd, hA, hnm⟩ := ARd.of hE
  have a1 := hn.len
  have a2 := hd.len
  have a3 := hA.1.1
  unfold zeroT EqP
  rw [← r1, ← r2, ← r3]
  constructor
  · rintro ⟨⟨h1, h2, h3, h4, h5⟩, h6, _⟩
    subst h1 h2 h3
    rw [h4] at a1
    rw [h5] at a2
    exact ⟨rfl, rfl, ⟨rfl, by simpa using a1.symm, by simpa using a2.symm⟩, by simp at h6; simp [h6] at a3; omega⟩
  · rintro ⟨h1, h2, ⟨h3, h4, h5⟩, h6⟩
    subst h4 h5 h6
    refine ⟨⟨h1, ?_, h3, List.eq_nil_of_length_eq_zero a1, List.eq_nil_of_length_eq_zero a2⟩, by simpa using a3, fun i hi hi' => absurd hi' (Nat.not_lt_zero i)⟩
    rw [← bytes_eq, Lib.toList_data, Lib.toList_data, h2]
/-- a statement in memory: its cells, its names, the tree of its expression -/
structure StOk (w : World) (cs : List Value) (k : Int) (L : List ByteArray) (m : Nat) (t : Tr) : Prop where
  mem : ∃ (pn : Option Addr) (nn cn : Nat) (ce : List Value) (o : Int), cs = [.int .i64 k, .slice pn nn cn] ++ ce ++ [.int .i64 o] ∧ NRd w pn nn cn L ∧ ERd w m ce t
  names : ∀ i (hi : i < L.length), (L[i]).size ≤ maxLen
theorem StOk.keep {w w' : World} {cs : List Value} {k : Int} {L : List ByteArray} {m : Nat} {t : Tr} (h : StOk w cs k L m t) (hg : w.grownBy w' none) : StOk w' cs k L m t := by
  obtain ⟨pn, nn, cn, ce, o, h1, h2, h3⟩ := h.mem
  exact ⟨⟨pn, nn, cn, ce, o, h1, h2.keep hg, h3.keep hg⟩, h.names⟩
theorem stmt_both (cs : List Value) (k : Int) (L : List ByteArray) (m : Nat) (t : Tr) (w : World) (Tq : Tb w) (hS : StOk w cs k L m t) (hD : DgF m t) (hsz : szF m t ≤ 1048576) : ∃ x : Int,
    (∀ W, w.grownBy W none → Calls Tryz.prog 43 #[.agg cs.toArray] W fun e w' => e = .returned (.int .i64 x) ∧ W.grownBy w' none) ∧
    (∀ W, w.grownBy W none → Calls Tryz.prog 28 #[.agg cs.toArray] W fun e w' => e = .returned (.int .i64 x) ∧ W.grownBy w' none) := by
  obtain ⟨⟨pn, nn, cn, ce, o, rfl, hL, hE⟩, hN⟩ := hS
  obtain ⟨e1, e2, e3, p1, n1, c1, p2, n2, c2, p3, n3, c3, e7, rfl⟩ := hE.shape
  obtain ⟨X, X1, X2⟩ := check_both m _ t (sortS k) w Tq hE hD hsz
  obtain ⟨bn, hbn⟩ := ex_bool (∀ i (hi : i < L.length), isNm (L[i]).data.toList = true)
  cases m with
  | zero => exact hE.elim
  | succ m =>
  cases t with
  | node h l =>
  obtain ⟨z, hz⟩ := ex_bool (EqP (m + 1) (.node h l) zeroT)
  refine ⟨stE k nn bn z e1 X, fun W hW => ?_, fun W hW => ?_⟩
  · exact checkStmt_n k pn nn cn e1 e2 e3 p1 n1 c1 p2 n2 c2 p3 n3 c3 e7 o bn z X W (fun W' hW' => allNames_any pn nn cn L W' (hL.keep (grown_trans hW hW')) hN bn hbn) (fun W' hW' => checkNone_any (m + 1) _ _ z hz W' (hE.keep (grown_trans hW hW'))) (fun W' hW' => X1 W' (grown_trans hW hW'))
  · exact rCheckStmt_n k pn nn cn e1 e2 e3 p1 n1 c1 p2 n2 c2 p3 n3 c3 e7 o bn z X L W (hL.keep hW) hN hbn (fun W' hW' => empty_any e1 e2 e3 p1 n1 c1 p2 n2 c2 p3 n3 c3 e7 z W' (hz.trans (eq_zeroT hE))) (fun W' hW' => X2 W' (grown_trans hW hW'))
end Go.Proofs.YtbioamglnndofaaGreatDoor

set_option linter.unusedVariables false
set_option linter.unusedSimpArgs false
namespace Go.Proofs.YtbioamglnndofaaGreatDoor
open Go.RowKit _root_.Nm
/-- the cells of a statement of a list -/
def StAt (w : World) (p : Option Addr) (i : Nat) (cs : List Value) : Prop := ∃ (b o : Nat) (k : Int) (pn : Option Addr) (nn cn : Nat) (e1 : Int) (e2 : ByteArray) (e3 : Bool) (p1 : Option Addr) (n1 c1 : Nat) (p2 : Option Addr) (n2 c2 : Nat) (p3 : Option Addr) (n3 c3 : Nat) (e7 o9 : Int), p = some ⟨b, o, none⟩ ∧ cs = [.int .i64 k, .slice pn nn cn, .int .i64 e1, .string e2, .bool e3, .slice p1 n1 c1, .slice p2 n2 c2, .slice p3 n3 c3, .int .i64 e7, .int .i64 o9] ∧ w.cell? ⟨b, o + i * 10, none⟩ = some (.int .i64 k) ∧ w.cell? ⟨b, o + i * 10 + 1, none⟩ = some (.slice pn nn cn) ∧ w.cell? ⟨b, o + i * 10 + 2, none⟩ = some (.int .i64 e1) ∧ w.cell? ⟨b, o + i * 10 + 3, none⟩ = some (.string e2) ∧ w.cell? ⟨b, o + i * 10 + 4, none⟩ = some (.bool e3) ∧ w.cell? ⟨b, o + i * 10 + 5, none⟩ = some (.slice p1 n1 c1) ∧ w.cell? ⟨b, o + i * 10 + 6, none⟩ = some (.slice p2 n2 c2) ∧ w.cell? ⟨b, o + i * 10 + 7, none⟩ = some (.slice p3 n3 c3) ∧ w.cell? ⟨b, o + i * 10 + 8, none⟩ = some (.int .i64 e7) ∧ w.cell? ⟨b, o + i * 10 + 9, none⟩ = some (.int .i64 o9)
theorem StAt.keep {w w' : World} {p : Option Addr} {i : Nat} {cs : List Value} (h : StAt w p i cs) (hg : w.grownBy w' none) : StAt w' p i cs := by
  obtain ⟨b, o, k, pn, nn, cn, e1, e2, e3, p1, n1, c1, p2, n2, c2, p3, n3, c3, e7, o9, h1, h2, a0, a1, a2, a3, a4, a5, a6, a7, a8, a9⟩ := h
  exact ⟨b, o, k, pn, nn, cn, e1, e2, e3, p1, n1, c1, p2, n2, c2, p3, n3, c3, e7, o9, h1, h2, hg.cell a0 (by simp), hg.cell a1 (by simp), hg.cell a2 (by simp), hg.cell a3 (by simp), hg.cell a4 (by simp), hg.cell a5 (by simp), hg.cell a6 (by simp), hg.cell a7 (by simp), hg.cell a8 (by simp), hg.cell a9 (by simp)⟩
/-- the first statement with an error, and its error -/
def scanP (X : Nat → Int) : Nat → Nat → Int × Int
  | _, 0 => (0, 0)
  | k, f + 1 => if X k = 0 then scanP X (k + 1) f else ((k : Int), X k)
theorem scanP_step {X : Nat → Int} {k n : Nat} (hk : k < n) : scanP X k (n - k) = if X k = 0 then scanP X (k + 1) (n - (k + 1)) else ((k : Int), X k) := by
  rw [show n - k = (n - (k + 1)) + 1 by omega]
  rfl
set_option maxHeartbeats 16000000 in
set_option maxRecDepth 100000 in
theorem checkProgram_n (p : Option Addr) (n c : Nat) (C : Nat → List Value) (X : Nat → Int) (w : World) (hc : n ≤ c ∧ c ≤ 9223372036854775807) (hC : ∀ i, i < n → StAt w p i (C i))
    (hX : ∀ i, i < n → ∀ W, w.grownBy W none → Calls Tryz.prog 43 #[.agg (C i).toArray] W fun e w' => e = .returned (.int .i64 (X i)) ∧ W.grownBy w' none) (r : Int × Int) (hr : scanP X 0 n = r) :
    Calls Tryz.prog 24 #[.agg #[.slice p n c]] w fun e w' => e = .returned (.tuple #[.int .i64 r.1, .int .i64 r.2]) ∧ w.grownBy w' none := by
  have HC := hid hC
  have HX := hid hX
  have HR := hid hr
  obtain ⟨hnc, hcm⟩ := hc
  clear hC hX hr
  have HW := hid (World.grownBy_alloc w (.cells #[.slice p n c] 24 (0, 0)) none)
  go_enter Tryz.func24, Tryz.ntmps24
  go_wp2_with fail
  go_loopw [10] (fun y wr => ∃ k : Nat, k ≤ n ∧ y = .int .i64 k ∧ w.grownBy wr none ∧ Hid (scanP X k (n - k) = r)) (fun y _ => n - (intOf y).toNat)
  case atStart => exact ⟨0, Nat.zero_le _, rfl, HW.out, hid HR.out⟩
  case round =>
    clear HR
    obtain ⟨k0, hk, rfl, hg, hsc⟩ := hrel
    by_cases hlt : k0 < n
    · obtain ⟨b, o, k, pn, nn, cn, e1, e2, e3, p1, n1, c1, p2, n2, c2, p3, n3, c3, e7, o9, rfl, hck, a0, a1, a2, a3, a4, a5, a6, a7, a8, a9⟩ := (HC.out k0 hlt).keep hg
      have hG1 := World.grownBy_alloc wr (.cells #[.int .i64 k, .slice pn nn cn, .int .i64 e1, .string e2, .bool e3, .slice p1 n1 c1, .slice p2 n2 c2, .slice p3 n3 c3, .int .i64 e7, .int .i64 o9] 46 (0, 0)) none
      have HCC := hid (HX.out k0 hlt _ (grown_trans hg hG1))
      rw [hck] at HCC
      rw [scanP_step hlt] at hsc
      have HGG := hid (grown_trans hg hG1)
      clear hck hG1
      generalize X k0 = v at *
      obtain ⟨⟨i0, i1, i2, i3, i4, i5, i6, i7, i8, i9⟩, fa⟩ := box10' (blk0 wr (.cells #[.int .i64 0, .slice none 0 0, .int .i64 0, .string ⟨#[]⟩, .bool false, .slice none 0 0, .slice none 0 0, .slice none 0 0, .int .i64 0, .int .i64 0] 46 (0, 0)))
      have f0 := fa 0; have f1 := fa 1; have f2 := fa 2; have f3 := fa 3; have f4 := fa 4; have f5 := fa 5; have f6 := fa 6; have f7 := fa 7; have f8 := fa 8; have f9 := fa 9
      clear fa
      by_cases hv : v = 0
      · subst hv
        rw [if_pos rfl] at hsc
        go_wp2_with (go_at_call 43; refine HCC.out.mono ?_; rintro e w3 ⟨rfl, hg3⟩)
        exact ⟨⟨k0 + 1, by omega, by go_num, grown_trans HGG.out hg3, hsc⟩, by simp [intOf]; omega⟩
      · rw [if_neg hv] at hsc
        obtain rfl := hsc.out
        go_wp2_with (go_at_call 43; refine HCC.out.mono ?_; rintro e w3 ⟨rfl, hg3⟩)
        go_ret2
        exact ⟨rfl, grown_trans HGG.out hg3⟩
    · obtain rfl : k0 = n := by omega
      obtain rfl : r = (0, 0) := by
        have := hsc.out
        rw [Nat.sub_self] at this
        exact this.symm
      go_wp2_with fail
      go_ret2
      exact ⟨rfl, hg⟩
end Go.Proofs.YtbioamglnndofaaGreatDoor

set_option linter.unusedVariables false
set_option linter.unusedSimpArgs false
namespace Go.Proofs.YtbioamglnndofaaGreatDoor
open Go.RowKit _root_.Nm
/-- the number of parts -/
def cntN : Nat → Tr → Nat
  | 0, _ => 0
  | m + 1, .node _ l => 1 + (l.map (cntN m)).sum
theorem cntN_succ (m : Nat) (h : Hd) (l : List Tr) : cntN (m + 1) (.node h l) = 1 + (l.map (cntN m)).sum := rfl
theorem sum_take_succ {l : List Nat} {k : Nat} (hk : k < l.length) : (l.take (k + 1)).sum = (l.take k).sum + l[k] := by
  rw [List.take_add_one, List.getElem?_eq_getElem hk]
  simp only [Option.toList, List.sum_append, List.sum_cons, List.sum_nil, Nat.add_zero]
theorem sum_take_le {l : List Nat} (k : Nat) : (l.take k).sum ≤ l.sum := by
  have := List.sum_append (l₁ := l.take k) (l₂ := l.drop k)
  rw [List.take_append_drop] at this
  omega
def CellB (w : World) (B : Nat) (x : Nat) : Prop := w.heap[B]? = some (.cells #[.int .i64 (x : Nat)] 3 (0, 0))
/-- the other blocks stay -/
def KeepB (w w' : World) (B : Nat) : Prop := (∀ G O, G ≠ B → w.heap[G]? = some O → w'.heap[G]? = some O) ∧ w.heap.size ≤ w'.heap.size
theorem KeepB.trans {w w' w'' : World} {B : Nat} (h : KeepB w w' B) (h' : KeepB w' w'' B) : KeepB w w'' B := ⟨fun G O hG hO => h'.1 G O hG (h.1 G O hG hO), Nat.le_trans h.2 h'.2⟩
theorem KeepB.grown {w w' : World} {B : Nat} (h : w.grownBy w' none) : KeepB w w' B := ⟨fun G O _ hO => keepB hO h, h.size⟩
end Go.Proofs.YtbioamglnndofaaGreatDoor

set_option linter.unusedVariables false
set_option linter.unusedSimpArgs false
namespace Go.Proofs.YtbioamglnndofaaGreatDoor
open Go.RowKit _root_.Nm
theorem box1d {w : World} {G : Nat} {a : Value} {T : TypeId} (hb : w.heap[G]? = some (.cells #[a] T (0, 0))) : w.cell? ⟨G, 0, none⟩ = some a ∧ w.frozen? ⟨G, 0, none⟩ = false := by
  have k0 := cell_of_row w G 0 _ _ _ hb
  simp at k0
  exact ⟨k0, frozen_of_row w G 0 _ _ hb⟩
theorem cntF_cntN : ∀ (m : Nat) (t : Tr), cntN m t ≤ 2000000000 → cntF m t = (cntN m t : Int)
  | 0, _, _ => rfl
  | m + 1, .node h l, hd => by
    rw [cntN_succ] at hd ⊢
    rw [cntF_succ]
    unfold sumC
    have hm : ∀ (L : List Tr) (a : Nat), a + (L.map (cntN m)).sum ≤ 2000000000 → (L.map (cntF m)).foldl (fun a b => wrap64 (a + b)) (a : Int) = ((a + (L.map (cntN m)).sum : Nat) : Int) := by
      intro L
      induction L with
      | nil => intro a _; simp
      | cons x r ih =>
        intro a hL
        rw [List.map_cons, List.sum_cons] at hL
        rw [List.map_cons, List.foldl_cons, List.map_cons, List.sum_cons, cntF_cntN m x (by omega), show wrap64 ((a : Int) + ((cntN m x : Nat) : Int)) = ((a + cntN m x : Nat) : Int) by unfold wrap64; omega, ih _ (by omega)]
        congr 1
        omega
    have := hm l 1 hd
    simpa using this
/-- a list of statements in memory: kinds and trees -/
def StsAt (w : World) (p : Option Addr) (n m : Nat) (K : Nat → Int) (G : Nat → Tr) : Prop := ∀ i, i < n → ∃ (b o : Nat) (pn : Option Addr) (nn cn : Nat) (e1 : Int) (e2 : ByteArray) (e3 : Bool) (p1 : Option Addr) (n1 c1 : Nat) (p2 : Option Addr) (n2 c2 : Nat) (p3 : Option Addr) (n3 c3 : Nat) (e7 o9 : Int), p = some ⟨b, o, none⟩ ∧ ERd w m [.int .i64 e1, .string e2, .bool e3, .slice p1 n1 c1, .slice p2 n2 c2, .slice p3 n3 c3, .int .i64 e7] (G i) ∧ w.cell? ⟨b, o + i * 10, none⟩ = some (.int .i64 (K i)) ∧ w.cell? ⟨b, o + i * 10 + 1, none⟩ = some (.slice pn nn cn) ∧ w.cell? ⟨b, o + i * 10 + 2, none⟩ = some (.int .i64 e1) ∧ w.cell? ⟨b, o + i * 10 + 3, none⟩ = some (.string e2) ∧ w.cell? ⟨b, o + i * 10 + 4, none⟩ = some (.bool e3) ∧ w.cell? ⟨b, o + i * 10 + 5, none⟩ = some (.slice p1 n1 c1) ∧ w.cell? ⟨b, o + i * 10 + 6, none⟩ = some (.slice p2 n2 c2) ∧ w.cell? ⟨b, o + i * 10 + 7, none⟩ = some (.slice p3 n3 c3) ∧ w.cell? ⟨b, o + i * 10 + 8, none⟩ = some (.int .i64 e7) ∧ w.cell? ⟨b, o + i * 10 + 9, none⟩ = some (.int .i64 o9)
/-- the parts of the statements before k -/
def sizS (m : Nat) (K : Nat → Int) (G : Nat → Tr) : Nat → Nat
  | 0 => 0
  | k + 1 => sizS m K G k + if K k = 1 then 0 else cntN m (G k)
theorem sizS_succ (m : Nat) (K : Nat → Int) (G : Nat → Tr) (k : Nat) : sizS m K G (k + 1) = sizS m K G k + if K k = 1 then 0 else cntN m (G k) := rfl
theorem sizS_mono {m : Nat} {K : Nat → Int} {G : Nat → Tr} : ∀ {n k : Nat}, k ≤ n → sizS m K G k ≤ sizS m K G n
  | 0, k, h => by obtain rfl : k = 0 := by omega
                  exact Nat.le_refl _
  | n + 1, k, h => by
    by_cases hk : k = n + 1
    · rw [hk]; exact Nat.le_refl _
    · have := sizS_mono (m := m) (K := K) (G := G) (n := n) (k := k) (by omega)
      rw [sizS_succ]
      omega
end Go.Proofs.YtbioamglnndofaaGreatDoor

set_option linter.unusedVariables false
set_option linter.unusedSimpArgs false
namespace Go.Proofs.YtbioamglnndofaaGreatDoor
open Go.ChangeShapes Go.WideShapes Go.ChangeAt Go.RowKit _root_.Nm
theorem cellsNamesA : Tryz.prog.cellsOf 30 = 1 := by kernel_rfl
theorem cellsStmtA : Tryz.prog.cellsOf 46 = 10 := by kernel_rfl
theorem cellsStmtsA : Tryz.prog.cellsOf 22 = 1 := by kernel_rfl
theorem cntN_sz : ∀ (m : Nat) (t : Tr), cntN m t ≤ szF m t
  | 0, _ => Nat.le_refl _
  | m + 1, .node h l => by
    rw [cntN_succ, szF_succ]
    have : (l.map (cntN m)).sum ≤ (l.map (szF m)).sum := by
      induction l with
      | nil => exact Nat.le_refl _
      | cons x r ih =>
        have := cntN_sz m x
        simp only [List.map_cons, List.sum_cons]
        omega
    omega
section
variable {H : Type} {enc : TypeId × Value → H} {W : World}
theorem open_namesA {fuel : Nat} {cs : List Value} {x : DataW H × List MemPlace} (hf : DataW.trod enc Tryz.prog W 0 (fun _ => true) true fuel 30 cs = some x) :
    ∃ p n c L, cs = [.slice p n c] ∧ NRd W p n c L ∧ ∀ i (hi : i < L.length), (L[i]).size ≤ maxLen := by
  rcases open_strings Tryz.underlying30 Tryz.underlying9 cellsStrA hf with ⟨hcs, _⟩ | ⟨a, len, cap, ss, hcs, _, hl, hm, hz, _, hcell, hwz⟩
  · exact ⟨none, 0, 0, [], hcs, SRd.nil W 1, fun i hi => absurd hi (Nat.not_lt_zero i)⟩
  · simp only [if_true] at hz
    refine ⟨some a, len, cap, ss.take len, hcs, ⟨by simp; omega, fun r hr => by obtain ⟨d, _, rfl⟩ := List.mem_map.1 hr; rfl, hl, by unfold maxLen at hm; omega, fun i hi j hj => ?_⟩, fun i hi => ?_⟩
    · have hi' : i < len := by simp at hi; omega
      have hc := hcell i (by omega)
      have hsp := World.cell?_spot (hcell 0 (by omega))
      obtain ⟨b, o, rfl⟩ : ∃ b o, a = ⟨b, o, none⟩ := ⟨a.block, a.off, by
        cases a with
        | mk b o s => simp [Addr.add] at hsp; simp [hsp]⟩
      refine ⟨b, o, rfl, ?_⟩
      have hj0 : j = 0 := by simp at hj; omega
      subst hj0
      rw [add_addr] at hc
      rw [Nat.mul_one, Nat.add_zero, hc]
      simp [List.getD, List.getElem?_eq_getElem (show i < ss.length by omega)]
    · exact hwz _ (List.mem_of_mem_take (List.getElem_mem hi))
set_option maxRecDepth 100000 in
theorem open_stmtA {fuel : Nat} {cs : List Value} {x : DataW H × List MemPlace} (hf : DataW.trod enc Tryz.prog W 0 (fun _ => true) true (fuel + 1) 46 cs = some x) :
    ∃ k L t, StOk W cs k L ((fuel + 1) / 2) t ∧ DgF ((fuel + 1) / 2) t ∧ szF ((fuel + 1) / 2) t ≤ Rows.uptoBulk x.1 := by
  obtain ⟨xs, m, hm, rfl, hl, hlen, hfs⟩ := DataW.trod_struct Tryz.underlying46 hf
  obtain rfl : m = fuel := by omega
  rw [cellsStmtA] at hl
  match cs, hl, xs, hlen with
  | [c0, c1, c2, c3, c4, c5, c6, c7, c8, c9], _, [y0, y1, y2, y3], _ =>
    have h0 := hfs 0 _ rfl
    have h1 := hfs 1 _ rfl
    have h2 := hfs 2 _ rfl
    have h3 := hfs 3 _ rfl
    clear hfs
    simp [cellsIntA, cellsNamesA, cellsExprA] at h0 h1 h2 h3
    obtain ⟨k, hk, _, _⟩ := DataW.trod_int Tryz.underlying3 h0
    obtain ⟨pn, nn, cn, L, hn, hN, hNs⟩ := open_namesA h1
    obtain ⟨o, ho, _, _⟩ := DataW.trod_int Tryz.underlying3 h3
    obtain ⟨t, hE, hs, hD⟩ := open_exprW _ _ _ h2
    simp at hk hn ho
    subst hk hn ho
    refine ⟨k, L, t, ⟨⟨pn, nn, cn, [c2, c3, c4, c5, c6, c7, c8], o, rfl, hN, hE⟩, hNs⟩, hD, ?_⟩
    simp only [Rows.uptoBulk, List.map_cons, List.map_nil, Rows.uptoBulkAll]
    omega
theorem bulkAll_append {H : Type} : ∀ (a b : List (DataW H)), Rows.uptoBulkAll (a ++ b) = Rows.uptoBulkAll a + Rows.uptoBulkAll b
  | [], b => by simp [Rows.uptoBulkAll]
  | x :: a, b => by
    rw [List.cons_append]
    simp only [Rows.uptoBulkAll]
    rw [bulkAll_append a b]
    omega
theorem sizS_bulk {H : Type} (m : Nat) (K : Nat → Int) (G : Nat → Tr) (ds : List (DataW H)) (hG : ∀ i (hi : i < ds.length), cntN m (G i) ≤ Rows.uptoBulk ds[i]) : ∀ k, k ≤ ds.length → sizS m K G k ≤ Rows.uptoBulkAll (ds.take k)
  | 0, _ => Nat.zero_le _
  | k + 1, hk => by
    have ih := sizS_bulk m K G ds hG k (by omega)
    have h1 := hG k (by omega)
    rw [sizS_succ, List.take_add_one, List.getElem?_eq_getElem (by omega), bulkAll_append]
    simp only [Option.toList, Rows.uptoBulkAll]
    split <;> omega
set_option maxRecDepth 100000 in
theorem open_progA {fuel : Nat} {cs : List Value} {x : DataW H × List MemPlace} (hf : DataW.trod enc Tryz.prog W 0 (fun _ => true) true fuel 24 cs = some x) (hlc : cs.length = 1) (hbk : Rows.uptoBulk x.1 ≤ 1048576) :
    ∃ (p : Option Addr) (n c m : Nat) (K : Nat → Int) (G : Nat → Tr) (C : Nat → List Value), cs = [.slice p n c] ∧ (n ≤ c ∧ c ≤ 9223372036854775807) ∧ (∀ i, i < n → StAt W p i (C i)) ∧ (∀ i, i < n → (∃ L, StOk W (C i) (K i) L m (G i)) ∧ DgF m (G i) ∧ szF m (G i) ≤ 1048576) ∧ StsAt W p n m K G ∧ n + sizS m K G n ≤ 2000000000 := by
  obtain ⟨y0, n1, hx, _, h0⟩ := trod_struct1 Tryz.underlying24 hf
  simp only [cellsStmtsA] at h0
  match cs, hlc with
  | [c0], _ =>
    simp at h0
    rcases DataW.trod_slice Tryz.underlying22 h0 with ⟨hcs, _⟩ | ⟨a, len, cap, elems, rest, n2, _, hcs, hx0, _, hl, hcap, hel, hat, _, _⟩
    · simp at hcs
      subst hcs
      exact ⟨none, 0, 0, 0, fun _ => 0, fun _ => zeroT, fun _ => [], rfl, ⟨Nat.le_refl _, by omega⟩, fun i hi => absurd hi (Nat.not_lt_zero i), fun i hi => absurd hi (Nat.not_lt_zero i), fun i hi => absurd hi (Nat.not_lt_zero i), by simp [sizS]⟩
    · simp at hcs
      subst hcs
      rw [cellsStmtA] at hat
      have hbb : Rows.uptoBulkAll (elems.map (·.1)) ≤ 1048576 := by
        rw [hx, hx0] at hbk
        simp only [Rows.uptoBulk, Rows.uptoBulkAll] at hbk
        omega
      have hn : len ≤ 1048576 := by
        have := bulkAll_len (elems.map (·.1))
        simp at this
        omega
      have hone : ∀ i (hi : i < len), ∃ (ci : List Value) (k : Int) (t : Tr), W.cells? 0 (a.add (i * 10)) 10 = some ci ∧ (∃ L, StOk W ci k L (n2 / 2) t) ∧ DgF (n2 / 2) t ∧ szF (n2 / 2) t ≤ Rows.uptoBulk (elems[i]'(by omega)).1 := by
        intro i hi
        have h := hat i hi
        rw [List.getElem?_eq_getElem (by omega), Option.bind_eq_some_iff] at h
        obtain ⟨ci, hc, ht⟩ := h
        cases n2 with
        | zero => simp [DataW.trod] at ht
        | succ q =>
          obtain ⟨k, L, t, h1, h2, h3⟩ := open_stmtA ht
          exact ⟨ci, k, t, hc, ⟨L, h1⟩, h2, h3⟩
      obtain ⟨C, hC⟩ : ∃ C : Nat → List Value, ∀ i (hi : i < len), ∃ (k : Int) (t : Tr), W.cells? 0 (a.add (i * 10)) 10 = some (C i) ∧ (∃ L, StOk W (C i) k L (n2 / 2) t) ∧ DgF (n2 / 2) t ∧ szF (n2 / 2) t ≤ Rows.uptoBulk (elems[i]'(by omega)).1 :=
        ⟨fun i => if hi : i < len then Classical.choose (hone i hi) else [], fun i hi => by
          dsimp only
          rw [dif_pos hi]
          exact Classical.choose_spec (hone i hi)⟩
      obtain ⟨K, hK⟩ : ∃ K : Nat → Int, ∀ i (hi : i < len), ∃ (t : Tr), W.cells? 0 (a.add (i * 10)) 10 = some (C i) ∧ (∃ L, StOk W (C i) (K i) L (n2 / 2) t) ∧ DgF (n2 / 2) t ∧ szF (n2 / 2) t ≤ Rows.uptoBulk (elems[i]'(by omega)).1 :=
        ⟨fun i => if hi : i < len then Classical.choose (hC i hi) else 0, fun i hi => by
          dsimp only
          rw [dif_pos hi]
          exact Classical.choose_spec (hC i hi)⟩
      obtain ⟨G, hG⟩ : ∃ G : Nat → Tr, ∀ i (hi : i < len), W.cells? 0 (a.add (i * 10)) 10 = some (C i) ∧ (∃ L, StOk W (C i) (K i) L (n2 / 2) (G i)) ∧ DgF (n2 / 2) (G i) ∧ szF (n2 / 2) (G i) ≤ Rows.uptoBulk (elems[i]'(by omega)).1 :=
        ⟨fun i => if hi : i < len then Classical.choose (hK i hi) else zeroT, fun i hi => by
          dsimp only
          rw [dif_pos hi]
          exact Classical.choose_spec (hK i hi)⟩
      have hcell : ∀ i (hi : i < len), ∃ (b o : Nat), a = ⟨b, o, none⟩ ∧ (C i).length = 10 ∧ ∀ j (hj : j < (C i).length), W.cell? ⟨b, o + i * 10 + j, none⟩ = some (C i)[j] := by
        intro i hi
        obtain ⟨h1, _⟩ := hG i hi
        obtain ⟨_, e2, e3⟩ := World.cells?_some h1
        obtain ⟨h1z, _⟩ := hG 0 (by omega)
        obtain ⟨_, z2, z3⟩ := World.cells?_some h1z
        have hc0 : W.cell? ((a.add (0 * 10)).add 0) = some ((C 0)[0]'(by omega)) := by rw [z3 0 (by omega), List.getElem?_eq_getElem (by omega)]
        have hsp := World.cell?_spot hc0
        obtain ⟨b, o, rfl⟩ : ∃ b o, a = ⟨b, o, none⟩ := ⟨a.block, a.off, by
          cases a with
          | mk b o s => simp [Addr.add] at hsp; simp [hsp]⟩
        refine ⟨b, o, rfl, e2, fun j hj => ?_⟩
        have := e3 j (by omega)
        rw [add_addr, add_addr, List.getElem?_eq_getElem (by omega)] at this
        exact this
      have hboth : ∀ i (hi : i < len), StAt W (some a) i (C i) ∧ ∃ (b o : Nat) (pn : Option Addr) (nn cn : Nat) (e1 : Int) (e2 : ByteArray) (e3 : Bool) (p1 : Option Addr) (n1 c1 : Nat) (p2 : Option Addr) (n2' c2 : Nat) (p3 : Option Addr) (n3 c3 : Nat) (e7 o9 : Int), some a = some ⟨b, o, none⟩ ∧ ERd W (n2 / 2) [.int .i64 e1, .string e2, .bool e3, .slice p1 n1 c1, .slice p2 n2' c2, .slice p3 n3 c3, .int .i64 e7] (G i) ∧ W.cell? ⟨b, o + i * 10, none⟩ = some (.int .i64 (K i)) ∧ W.cell? ⟨b, o + i * 10 + 1, none⟩ = some (.slice pn nn cn) ∧ W.cell? ⟨b, o + i * 10 + 2, none⟩ = some (.int .i64 e1) ∧ W.cell? ⟨b, o + i * 10 + 3, none⟩ = some (.string e2) ∧ W.cell? ⟨b, o + i * 10 + 4, none⟩ = some (.bool e3) ∧ W.cell? ⟨b, o + i * 10 + 5, none⟩ = some (.slice p1 n1 c1) ∧ W.cell? ⟨b, o + i * 10 + 6, none⟩ = some (.slice p2 n2' c2) ∧ W.cell? ⟨b, o + i * 10 + 7, none⟩ = some (.slice p3 n3 c3) ∧ W.cell? ⟨b, o + i * 10 + 8, none⟩ = some (.int .i64 e7) ∧ W.cell? ⟨b, o + i * 10 + 9, none⟩ = some (.int .i64 o9) := by
        intro i hi
        obtain ⟨_, ⟨L, hst⟩, _⟩ := hG i hi
        obtain ⟨b, o, rfl, hlen10, hcl⟩ := hcell i hi
        obtain ⟨pn, nn, cn, ce, o9, hce, _, hE⟩ := hst.mem
        obtain ⟨e1, e2, e3, p1, n1, c1, p2, n2', c2, p3, n3, c3, e7, rfl⟩ := hE.shape
        simp only [List.cons_append, List.nil_append] at hce
        rw [hce] at hcl
        have a0 := hcl 0 (by simp); have a1 := hcl 1 (by simp); have a2 := hcl 2 (by simp); have a3 := hcl 3 (by simp); have a4 := hcl 4 (by simp); have a5 := hcl 5 (by simp); have a6 := hcl 6 (by simp); have a7 := hcl 7 (by simp); have a8 := hcl 8 (by simp); have a9 := hcl 9 (by simp)
        simp only [List.getElem_cons_zero, List.getElem_cons_succ, Nat.add_zero] at a0 a1 a2 a3 a4 a5 a6 a7 a8 a9
        exact ⟨⟨b, o, K i, pn, nn, cn, e1, e2, e3, p1, n1, c1, p2, n2', c2, p3, n3, c3, e7, o9, rfl, hce, a0, a1, a2, a3, a4, a5, a6, a7, a8, a9⟩, b, o, pn, nn, cn, e1, e2, e3, p1, n1, c1, p2, n2', c2, p3, n3, c3, e7, o9, rfl, hE, a0, a1, a2, a3, a4, a5, a6, a7, a8, a9⟩
      refine ⟨some a, len, cap, n2 / 2, K, G, C, rfl, ⟨hl, by unfold maxLen at hcap; omega⟩, fun i hi => (hboth i hi).1, fun i hi => ?_, fun i hi => (hboth i hi).2, ?_⟩
      · obtain ⟨_, h2, h3, h4⟩ := hG i hi
        refine ⟨h2, h3, ?_⟩
        have h5 := le_sum (l := (elems.map (·.1)).map Rows.uptoBulk) (i := i) (by simp; omega)
        have h6 : ((elems.map (·.1)).map Rows.uptoBulk).sum = Rows.uptoBulkAll (elems.map (·.1)) := by
          generalize elems.map (·.1) = L
          induction L with
          | nil => simp [Rows.uptoBulkAll]
          | cons x r ih => simp only [List.map_cons, List.sum_cons, Rows.uptoBulkAll, ih]
        rw [h6] at h5
        simp at h5
        omega
      · have h7 := sizS_bulk (n2 / 2) K G (elems.map (·.1)) (fun i hi => by
          obtain ⟨_, _, _, h4⟩ := hG i (by simp at hi; omega)
          have := cntN_sz (n2 / 2) (G i)
          simp
          omega) len (by simp; omega)
        rw [List.take_of_length_le (by simp; omega)] at h7
        omega
end
end Go.Proofs.YtbioamglnndofaaGreatDoor
