/-
  Contracts of the equality of expressions in the program.
-/
import Derived.Test.YtolpcclobmgneaaEqB
import Derived.Test.YtolpcclobmgneaaEqM
import Derived.Test.YtolpcclobmgneaaAstN
set_option linter.unusedVariables false
set_option linter.unusedSimpArgs false
namespace Go.Proofs.Ytolpcclobmgneaa
open Go.RowKit _root_.Nm
/-- a list of arguments in memory -/
def ARd (w : World) (m : Nat) (pa : Option Addr) (na ca : Nat) (l : List Tr) : Prop :=
  (l.length = na ∧ na ≤ ca ∧ ca ≤ 9223372036854775807) ∧ ∀ i (hi : i < l.length), ∃ b o cs', pa = some ⟨b, o, none⟩ ∧ cs'.length = 7 ∧ (∀ j (hj : j < cs'.length), w.cell? ⟨b, o + i * 7 + j, none⟩ = some cs'[j]) ∧ ERd w m cs' l[i]
theorem ARd.keep {w w' : World} {m : Nat} {pa : Option Addr} {na ca : Nat} {l : List Tr} (hg : w.grownBy w' none) (h : ARd w m pa na ca l) : ARd w' m pa na ca l := by
  refine ⟨h.1, fun i hi => ?_⟩
  obtain ⟨b, o, cs', k1, k2, k3, k4⟩ := h.2 i hi
  exact ⟨b, o, cs', k1, k2, fun j hj => hg.cell (k3 j hj) (by simp), k4.keep hg⟩
/-- one argument: its cells, spelled out -/
theorem ARd.at {w : World} {m : Nat} {pa : Option Addr} {na ca : Nat} {l : List Tr} (h : ARd w m pa na ca l) {i : Nat} (hi : i < l.length) :
    ∃ b o e1 e2 e3 p1 n1 c1 p2 n2 c2 p3 n3 c3 e7, pa = some ⟨b, o, none⟩ ∧ ERd w m [.int .i64 e1, .string e2, .bool e3, .slice p1 n1 c1, .slice p2 n2 c2, .slice p3 n3 c3, .int .i64 e7] l[i] ∧
      w.cell? ⟨b, o + i * 7, none⟩ = some (.int .i64 e1) ∧ w.cell? ⟨b, o + i * 7 + 1, none⟩ = some (.string e2) ∧ w.cell? ⟨b, o + i * 7 + 2, none⟩ = some (.bool e3) ∧ w.cell? ⟨b, o + i * 7 + 3, none⟩ = some (.slice p1 n1 c1) ∧ w.cell? ⟨b, o + i * 7 + 4, none⟩ = some (.slice p2 n2 c2) ∧ w.cell? ⟨b, o + i * 7 + 5, none⟩ = some (.slice p3 n3 c3) ∧ w.cell? ⟨b, o + i * 7 + 6, none⟩ = some (.int .i64 e7) := by
  obtain ⟨b, o, cs', rfl, h7, hc, hE⟩ := h.2 i hi
  obtain ⟨e1, e2, e3, p1, n1, c1, p2, n2, c2, p3, n3, c3, e7, rfl⟩ := hE.shape
  exact ⟨b, o, e1, e2, e3, p1, n1, c1, p2, n2, c2, p3, n3, c3, e7, rfl, hE, hc 0 (by simp), hc 1 (by simp), hc 2 (by simp), hc 3 (by simp), hc 4 (by simp), hc 5 (by simp), hc 6 (by simp)⟩
theorem ARd.of {w : World} {m : Nat} {h : Hd} {l : List Tr} {pa : Option Addr} {na ca : Nat} {k : Int} {nm : ByteArray} {g : Bool} {pn : Option Addr} {nn cn : Nat} {pd : Option Addr} {nd cd : Nat} {pos : Int}
    (hE : ERd w (m + 1) [.int .i64 k, .string nm, .bool g, .slice pn nn cn, .slice pd nd cd, .slice pa na ca, .int .i64 pos] (.node h l)) :
    (k = h.k ∧ nm = h.nm ∧ g = h.g ∧ pos = h.pos) ∧ IRd w .u16 pn nn cn h.num ∧ IRd w .u16 pd nd cd h.den ∧ ARd w m pa na ca l ∧ nm.size ≤ maxLen := by
  obtain ⟨pn', nn', cn', pd', nd', cd', pa', na', ca', h1, h2, h3, h4, h5⟩ := hE
  simp only [List.cons.injEq, Value.int.injEq, true_and, Value.string.injEq, Value.bool.injEq, Value.slice.injEq, and_true] at h1
  obtain ⟨rfl, rfl, rfl, ⟨rfl, rfl, rfl⟩, ⟨rfl, rfl, rfl⟩, ⟨rfl, rfl, rfl⟩, rfl⟩ := h1
  exact ⟨⟨rfl, rfl, rfl, rfl⟩, h2, h3, ⟨⟨h4.1, h4.2.1, h4.2.2.1⟩, h5⟩, h4.2.2.2⟩
theorem ex_bool (P : Prop) : ∃ b : Bool, b = true ↔ P := by
  by_cases h : P
  · exact ⟨true, by simp [h]⟩
  · exact ⟨false, by simp [h]⟩
/-- EqualExpr keeps its promise down to a depth -/
def EqOk (m : Nat) : Prop := ∀ (m' : Nat) (cs cs' : List Value) (t t' : Tr) (b : Bool) (w : World), ERd w m cs t → ERd w m' cs' t' → (b = true ↔ EqP m t t') →
  Calls Try.prog 6 #[.agg cs.toArray, .agg cs'.toArray] w fun e w' => e = .returned (.bool b) ∧ w.grownBy w' none

set_option maxHeartbeats 8000000 in
set_option maxRecDepth 100000 in
theorem eqFn_any (m m' : Nat) (hIH : EqOk m) (pa pb : Option Addr) (na ca nb cb : Nat) (l l' : List Tr) (b : Bool) (w : World) (hA : ARd w m pa na ca l) (hB : ARd w m' pb nb cb l') (hb : b = true ↔ (l.length = l'.length ∧ ∀ i (hi : i < l.length) (hi' : i < l'.length), EqP m l[i] l'[i])) :
    Calls Try.prog 12 #[.slice pa na ca, .slice pb nb cb, .func (.func 6) #[] #[]] w fun e w' => e = .returned (.bool b) ∧ w.grownBy w' none := by
  obtain ⟨⟨hla, hca, hma⟩, _⟩ := id hA
  obtain ⟨⟨hlb, hcb, hmb⟩, _⟩ := id hB
  have IH := hid hIH
  have HA := hid hA
  have HB := hid hB
  have HH := hid hb
  clear hIH hA hB hb
  by_cases hnn : na = nb
  · subst hnn
    go_enter Try.func12, Try.ntmps12
    go_wp2_with fail
    go_loopw [17] (fun x wr => ∃ k : Nat, k ≤ na ∧ x = .int .i64 k ∧ w.grownBy wr none ∧ ∀ i (hi : i < l.length) (hi' : i < l'.length), i < k → EqP m l[i] l'[i]) (fun x _ => na - (intOf x).toNat)
    case atStart => exact ⟨0, Nat.zero_le _, rfl, grown_refl _ _, fun i _ _ h => absurd h (Nat.not_lt_zero i)⟩
    case round =>
      obtain ⟨k, hk, rfl, hg, hall⟩ := hrel
      have HALL := hid hall
      clear hall
      by_cases hlt : k < na
      · obtain ⟨bA, oA, e1, e2, e3, p1, n1, c1, p2, n2, c2, p3, n3, c3, e7, rfl, hE1, a0, a1, a2, a3, a4, a5, a6⟩ := (HA.out.keep hg).at (i := k) (by omega)
        obtain ⟨bB, oB, x1, x2, x3, q1, m1, d1, q2, m2, d2, q3, m3, d3, x7, rfl, hE2, b0, b1, b2, b3, b4, b5, b6⟩ := (HB.out.keep hg).at (i := k) (by omega)
        have hG1 := World.grownBy_alloc wr (.cells #[.int .i64 e1, .string e2, .bool e3, .slice p1 n1 c1, .slice p2 n2 c2, .slice p3 n3 c3, .int .i64 e7] 30 (0, 0)) none
        have hG2 := World.grownBy_alloc (wr.alloc (.cells #[.int .i64 e1, .string e2, .bool e3, .slice p1 n1 c1, .slice p2 n2 c2, .slice p3 n3 c3, .int .i64 e7] 30 (0, 0))) (.cells #[.int .i64 x1, .string x2, .bool x3, .slice q1 m1 d1, .slice q2 m2 d2, .slice q3 m3 d3, .int .i64 x7] 30 (0, 0)) none
        obtain ⟨bq, hbq⟩ : ∃ bq : Bool, bq = true ↔ EqP m (l[k]'(by omega)) (l'[k]'(by omega)) := ex_bool _
        have HC := hid (IH.out m' _ _ _ _ bq _ (hE1.keep (grown_trans hG1 hG2)) (hE2.keep (grown_trans hG1 hG2)) hbq)
        have HGG := hid (grown_trans hg (grown_trans hG1 hG2))
        have HQ := hid hbq
        replace b0 := hG1.cell b0 (by simp); replace b1 := hG1.cell b1 (by simp); replace b2 := hG1.cell b2 (by simp); replace b3 := hG1.cell b3 (by simp); replace b4 := hG1.cell b4 (by simp); replace b5 := hG1.cell b5 (by simp); replace b6 := hG1.cell b6 (by simp)
        clear hE1 hE2 hG1 hG2 hbq
        obtain ⟨⟨k0, k1, k2, k3, k4, k5, k6⟩, f0, f1, f2, f3, f4, f5, f6⟩ := box7 (blk0 wr (zeroE 30))
        have bx := blk0 (wr.alloc (.cells #[.int .i64 e1, .string e2, .bool e3, .slice p1 n1 c1, .slice p2 n2 c2, .slice p3 n3 c3, .int .i64 e7] 30 (0, 0))) (zeroE 30)
        rw [show (wr.alloc (.cells #[.int .i64 e1, .string e2, .bool e3, .slice p1 n1 c1, .slice p2 n2 c2, .slice p3 n3 c3, .int .i64 e7] 30 (0, 0))).heap.size = wr.heap.size + 1 by simp] at bx
        obtain ⟨⟨j0, j1, j2, j3, j4, j5, j6⟩, g0, g1, g2, g3, g4, g5, g6⟩ := box7 bx
        clear bx
        unfold zeroE at k0 k1 k2 k3 k4 k5 k6 f0 f1 f2 f3 f4 f5 f6 j0 j1 j2 j3 j4 j5 j6 g0 g1 g2 g3 g4 g5 g6
        cases bq
        · obtain rfl : b = false := by
            rw [← Bool.not_eq_true, HH.out]
            rintro ⟨_, h⟩
            have := HQ.out.2 (h k (by omega) (by omega))
            cases this
          go_wp2_with (go_at_call 6; refine HC.out.mono ?_; rintro e w2 ⟨rfl, hg2⟩)
          go_ret
          exact ⟨rfl, grown_trans HGG.out hg2⟩
        · go_wp2_with (go_at_call 6; refine HC.out.mono ?_; rintro e w2 ⟨rfl, hg2⟩)
          exact ⟨⟨k + 1, by omega, by go_num, grown_trans HGG.out hg2, fun i hi hi' h => by
            rcases Nat.lt_or_eq_of_le (Nat.le_of_lt_succ h) with h | rfl
            · exact HALL.out i hi hi' h
            · exact HQ.out.1 trivial⟩, by simp [intOf]; omega⟩
      · obtain rfl : k = na := by omega
        obtain rfl : b = true := HH.out.2 ⟨by omega, fun i hi hi' => HALL.out i hi hi' (by omega)⟩
        go_wp2_with fail
        go_ret
        exact ⟨rfl, hg⟩
  · obtain rfl : b = false := by
      rw [← Bool.not_eq_true, HH.out]
      rintro ⟨h, _⟩
      omega
    have hz : ¬ (na : Int) = (nb : Int) := by omega
    go_enter Try.func12, Try.ntmps12
    go_wp2_with fail
    go_ret
    exact ⟨rfl, grown_refl _ _⟩

set_option maxHeartbeats 16000000 in
set_option maxRecDepth 100000 in
theorem equalExpr_ok : ∀ m, EqOk m
  | 0 => fun _ _ _ _ _ _ _ h _ _ => h.elim
  | m + 1 => fun m' cs cs' t t' b w hE hE' hb => by
    have IH := equalExpr_ok m
    cases m' with
    | zero => exact hE'.elim
    | succ q =>
    cases t with
    | node h l =>
    cases t' with
    | node h' l' =>
    obtain ⟨e1, e2, e3, p1, n1, c1, p2, n2, c2, p3, n3, c3, e7, rfl⟩ := hE.shape
    obtain ⟨x1, x2, x3, q1, m1, d1, q2, m2, d2, q3, m3, d3, x7, rfl⟩ := hE'.shape
    obtain ⟨⟨r1, r2, r3, -⟩, hn, hd, hA, -⟩ := ARd.of hE
    obtain ⟨⟨s1, s2, s3, -⟩, hn', hd', hA', -⟩ := ARd.of hE'
    obtain ⟨v1, hv1⟩ := ex_bool (e3 = x3 ∧ h.num = h'.num ∧ h.den = h'.den)
    obtain ⟨v2, hv2⟩ := ex_bool (l.length = l'.length ∧ ∀ i (hi : i < l.length) (hi' : i < l'.length), EqP m l[i] l'[i])
    have hbb : b = (decide (e1 = x1) && (decide (e2 = x2) && (v1 && v2))) := by
      rw [Bool.eq_iff_iff, hb, EqP, ← r1, ← r2, ← r3, ← s1, ← s2, ← s3]
      simp only [Bool.and_eq_true, decide_eq_true_eq, hv1, hv2, and_assoc]
    have HR := hid fun w' (hg : w.grownBy w' none) => equalRat_any e3 x3 p1 p2 q1 q2 n1 c1 n2 c2 m1 d1 m2 d2 _ _ _ _ v1 hv1 w' (hn.keep hg) (hd.keep hg) (hn'.keep hg) (hd'.keep hg)
    have HF := hid fun w' (hg : w.grownBy w' none) => eqFn_any m q IH p3 q3 n3 c3 m3 d3 l l' v2 w' (hA.keep hg) (hA'.keep hg) hv2
    subst hbb
    clear hE hE' hb hn hd hA hn' hd' hA' hv1 hv2 r1 r2 r3 s1 s2 s3 IH
    obtain ⟨⟨k0, k1, k2, k3, k4, k5, k6⟩, -⟩ := box7 (blk1 w (.cells #[.int .i64 e1, .string e2, .bool e3, .slice p1 n1 c1, .slice p2 n2 c2, .slice p3 n3 c3, .int .i64 e7] 30 (0, 0)) (.cells #[.int .i64 x1, .string x2, .bool x3, .slice q1 m1 d1, .slice q2 m2 d2, .slice q3 m3 d3, .int .i64 x7] 30 (0, 0)))
    have bx := blk0 (w.alloc (.cells #[.int .i64 e1, .string e2, .bool e3, .slice p1 n1 c1, .slice p2 n2 c2, .slice p3 n3 c3, .int .i64 e7] 30 (0, 0))) (.cells #[.int .i64 x1, .string x2, .bool x3, .slice q1 m1 d1, .slice q2 m2 d2, .slice q3 m3 d3, .int .i64 x7] 30 (0, 0))
    rw [show (w.alloc (.cells #[.int .i64 e1, .string e2, .bool e3, .slice p1 n1 c1, .slice p2 n2 c2, .slice p3 n3 c3, .int .i64 e7] 30 (0, 0))).heap.size = w.heap.size + 1 by simp] at bx
    obtain ⟨⟨j0, j1, j2, j3, j4, j5, j6⟩, -⟩ := box7 bx
    clear bx
    have hW := grown_trans (World.grownBy_alloc w (.cells #[.int .i64 e1, .string e2, .bool e3, .slice p1 n1 c1, .slice p2 n2 c2, .slice p3 n3 c3, .int .i64 e7] 30 (0, 0)) none) (World.grownBy_alloc _ (.cells #[.int .i64 x1, .string x2, .bool x3, .slice q1 m1 d1, .slice q2 m2 d2, .slice q3 m3 d3, .int .i64 x7] 30 (0, 0)) none)
    by_cases h1 : e1 = x1
    · subst h1
      by_cases h2 : e2 = x2
      · subst h2
        cases v1
        all_goals
          go_enter Try.func6, Try.ntmps6
          go_upto_region 1 with fail
          generalize ((w.alloc _).alloc _) = w0 at *
          go_wp2_with (first
            | (go_at_call 11; refine (HR.out _ hW).mono ?_; rintro e w1 ⟨rfl, hg⟩; replace hW := grown_trans hW hg; replace k0 := hg.cell k0 (by simp); replace k1 := hg.cell k1 (by simp); replace k2 := hg.cell k2 (by simp); replace k3 := hg.cell k3 (by simp); replace k4 := hg.cell k4 (by simp); replace k5 := hg.cell k5 (by simp); replace k6 := hg.cell k6 (by simp); replace j0 := hg.cell j0 (by simp); replace j1 := hg.cell j1 (by simp); replace j2 := hg.cell j2 (by simp); replace j3 := hg.cell j3 (by simp); replace j4 := hg.cell j4 (by simp); replace j5 := hg.cell j5 (by simp); replace j6 := hg.cell j6 (by simp); clear HR hg)
            | (go_at_call 12; refine (HF.out _ hW).mono ?_; rintro e w1 ⟨rfl, hg⟩; replace hW := grown_trans hW hg; replace k0 := hg.cell k0 (by simp); replace k1 := hg.cell k1 (by simp); replace k2 := hg.cell k2 (by simp); replace k3 := hg.cell k3 (by simp); replace k4 := hg.cell k4 (by simp); replace k5 := hg.cell k5 (by simp); replace k6 := hg.cell k6 (by simp); replace j0 := hg.cell j0 (by simp); replace j1 := hg.cell j1 (by simp); replace j2 := hg.cell j2 (by simp); replace j3 := hg.cell j3 (by simp); replace j4 := hg.cell j4 (by simp); replace j5 := hg.cell j5 (by simp); replace j6 := hg.cell j6 (by simp); clear HF hg))
          go_ret
          exact ⟨by simp, hW⟩
      · go_enter Try.func6, Try.ntmps6
        go_upto_region 1 with fail
        generalize ((w.alloc _).alloc _) = w0 at *
        have hz : (e2.toList == x2.toList) = false := by
          rw [beq_eq_false_iff_ne]
          exact fun h => h2 (bytes_eq.1 h)
        go_wp2_with fail
        go_ret
        exact ⟨by simp [h2], hW⟩
    · go_enter Try.func6, Try.ntmps6
      go_upto_region 1 with fail
      generalize ((w.alloc _).alloc _) = w0 at *
      have hz := h1
      go_wp2_with fail
      go_ret
      exact ⟨by simp [h1], hW⟩
end Go.Proofs.Ytolpcclobmgneaa
