/-
  PmD PmE PlX PmF PlZ, in one text.
-/
import Derived.Test.YtceoegmflbgckaaGreatDoorMrQ
import Derived.Test.YtceoegmflbgckaaGreatDoorMrV
import Derived.Test.YtceoegmflbgckaaGreatDoorMrT
import Derived.Test.YtceoegmflbgckaaGreatDoorMrS

set_option linter.unusedVariables false
set_option linter.unusedSimpArgs false
namespace Go.Proofs.YtceoegmflbgckaaGreatDoor
open Go Go.RowKit _root_.Nm
theorem prod_tot2 (H K S : Nat) (B : Int) {w : World} (T : Tb w) {p q : Option Addr} {n c m d : Nat} {P Q : List Tm} (hP : IsP w p n c P) (hQ : IsP w q m d Q) (bP : BdP H P) (bQ : BdP K Q) (eP : ExP B P) (eQ : ExP B Q) (hB : 0 ≤ B ∧ B ≤ 2147483648) (nP : NF P) (nQ : NF Q) (hn : n ≤ 1000000) (hm : m ≤ 1000000) (hnm : n * m ≤ 1000000) (hS : H ≤ S ∧ K ≤ S ∧ S ≤ 9000) (hM : n * (H + K + 1) ≤ 9000)
    {bp bq : Nat} (h1 : w.heap[bp]? = some (.cells #[.slice p n c] 35 (0, 0))) (h2 : w.heap[bq]? = some (.cells #[.slice q m d] 35 (0, 0))) : Calls Tryz.prog 56 #[.int .i64 n, .func (.func 141) #[] #[.pointer (some ⟨bp, 0, none⟩), .pointer (some ⟨bq, 0, none⟩)]] w (PPost w (mulP P Q)) := by
  have hl := hP.len
  have hl2 := hQ.len
  have := total_v (rowP P Q) n m (H + K) (B + B) T (fun i hi => by
    rw [rowP_at (by omega)]
    exact ⟨by unfold mulT; rw [List.length_map]; omega, BdP.mulT (bP.at (by omega)) bQ, ExP.mulT (eP.at (by omega)) eQ hB.1 (by omega)⟩) hn hnm hM ⟨by omega, by omega⟩ (bp := bp) (bq := bq)
    (fun i hi W hW => part_v S B (T.keep hW) (hP.keep hW) (hQ.keep hW) hS.2.2 (bP.mono hS.1) (bQ.mono hS.2.1) eP eQ ⟨hB.1, by omega⟩ nQ.nz hm (keepB h1 hW) (keepB h2 hW) hi)
  have e := mulP_tot nP nQ
  rw [hl] at e
  rw [e] at this
  exact this
set_option maxHeartbeats 8000000 in
set_option maxRecDepth 100000 in
theorem product2_v (H K S : Nat) (B : Int) {w : World} (T : Tb w) {p q : Option Addr} {n c m d : Nat} {P Q : List Tm} (hP : IsP w p n c P) (hQ : IsP w q m d Q) (bP : BdP H P) (bQ : BdP K Q) (eP : ExP B P) (eQ : ExP B Q) (hB : 0 ≤ B ∧ B ≤ 2147483648) (nP : NF P) (nQ : NF Q) (hn : n ≤ 1000000) (hm : m ≤ 1000000) (hnm : n * m ≤ 1000000) (hS : H ≤ S ∧ K ≤ S ∧ S ≤ 9000) (hM : min n m * (H + K + 1) ≤ 9000) :
    Calls Tryz.prog 86 #[.slice p n c, .slice q m d] w (PPost w (mulP P Q)) := by
  have hcP := hP.cap; have hxP := hP.max; have hcQ := hQ.cap; have hxQ := hQ.max
  have gA := World.grownBy_alloc w (.cells #[.slice p n c] 35 (0, 0)) none
  have gB := World.grownBy_alloc (w.alloc (.cells #[.slice p n c] 35 (0, 0))) (.cells #[.slice q m d] 35 (0, 0)) none
  have BP := hid (keepB (blk0 w (.cells #[.slice p n c] 35 (0, 0))) gB)
  have hsz : (w.alloc (.cells #[.slice p n c] 35 (0, 0))).heap.size = w.heap.size + 1 := by simp
  have BQ := blk0 (w.alloc (.cells #[.slice p n c] 35 (0, 0))) (.cells #[.slice q m d] 35 (0, 0))
  rw [hsz] at BQ
  replace BQ := hid BQ
  have HW := hid (grown_trans gA gB)
  have H1 : Hid (∀ W bp bq, w.grownBy W none → W.heap[bp]? = some (.cells #[.slice p n c] 35 (0, 0)) → W.heap[bq]? = some (.cells #[.slice q m d] 35 (0, 0)) → n ≤ m → Calls Tryz.prog 56 #[.int .i64 n, .func (.func 141) #[] #[.pointer (some ⟨bp, 0, none⟩), .pointer (some ⟨bq, 0, none⟩)]] W (PPost W (mulP P Q))) := hid fun W bp bq hg h1 h2 hnm2 => prod_tot2 H K S B (T.keep hg) (hP.keep hg) (hQ.keep hg) bP bQ eP eQ hB nP nQ hn hm hnm hS (by rw [Nat.min_eq_left hnm2] at hM; exact hM) h1 h2
  have H2 : Hid (∀ W bp bq, w.grownBy W none → W.heap[bp]? = some (.cells #[.slice q m d] 35 (0, 0)) → W.heap[bq]? = some (.cells #[.slice p n c] 35 (0, 0)) → m ≤ n → Calls Tryz.prog 56 #[.int .i64 m, .func (.func 141) #[] #[.pointer (some ⟨bp, 0, none⟩), .pointer (some ⟨bq, 0, none⟩)]] W (PPost W (mulP P Q))) := hid fun W bp bq hg h1 h2 hnm2 => by
    rw [mulP_comm nP nQ]
    exact prod_tot2 K H S B (T.keep hg) (hQ.keep hg) (hP.keep hg) bQ bP eQ eP hB nQ nP hm hn (by rw [Nat.mul_comm]; exact hnm) ⟨hS.2.1, hS.1, hS.2.2⟩ (by rw [Nat.min_eq_right hnm2] at hM; rw [Nat.add_comm K H]; exact hM) h1 h2
  clear T hP hQ bP bQ eP eQ nP nQ hnm hM gA gB hsz
  go_enter Tryz.func86, Tryz.ntmps86
  go_upto_region 1 with fail
  have hsz := HW.out.size
  have hlt := lt_of_block BQ.out
  generalize ((w.alloc _).alloc _) = w0 at *
  obtain ⟨bq, hbq⟩ : ∃ x, x = w.heap.size + 1 := ⟨_, rfl⟩
  obtain ⟨bp, hbp⟩ : ∃ x, x = w.heap.size := ⟨_, rfl⟩
  have hbqw : w.heap.size ≤ bq := by omega
  have hbpw : w.heap.size ≤ bp := by omega
  have hne : bp ≠ bq := by omega
  rw [← hbq] at BQ ⊢
  rw [← hbp] at BP ⊢
  clear hbq hbp hsz hlt
  have k0 := cell_of_one BP.out
  have k1 := cell_of_one BQ.out
  by_cases hgt : m < n
  · have f0 := free_of_one BP.out
    have f1 := free_of_one BQ.out
    go_upto_region 2 with fail
    have e1 : (w0.setCell ⟨bp, 0, none⟩ (.slice q m d)).heap[bp]? = some (.cells #[.slice q m d] 35 (0, 0)) := one_setCell BP.out
    have e2 : (w0.setCell ⟨bp, 0, none⟩ (.slice q m d)).heap[bq]? = some (.cells #[.slice q m d] 35 (0, 0)) := ((grown_setCell w0 ⟨bp, 0, none⟩ (.slice q m d)).block bq (lt_of_block BQ.out) (by simp; omega)).trans BQ.out
    have e3 : ((w0.setCell ⟨bp, 0, none⟩ (.slice q m d)).setCell ⟨bq, 0, none⟩ (.slice p n c)).heap[bq]? = some (.cells #[.slice p n c] 35 (0, 0)) := one_setCell e2
    have e4 : ((w0.setCell ⟨bp, 0, none⟩ (.slice q m d)).setCell ⟨bq, 0, none⟩ (.slice p n c)).heap[bp]? = some (.cells #[.slice q m d] 35 (0, 0)) := ((grown_setCell (w0.setCell ⟨bp, 0, none⟩ (.slice q m d)) ⟨bq, 0, none⟩ (.slice p n c)).block bp (lt_of_block e1) (by simp; omega)).trans e1
    have g1 := grown_new HW.out (grown_setCell w0 ⟨bp, 0, none⟩ (.slice q m d)) (fun g' e => by cases e; exact hbpw)
    have g2 := hid (grown_new g1 (grown_setCell (w0.setCell ⟨bp, 0, none⟩ (.slice q m d)) ⟨bq, 0, none⟩ (.slice p n c)) (fun g' e => by cases e; exact hbqw))
    have E3 := hid e3; have E4 := hid e4
    have HC := hid (H2.out _ bp bq g2.out e4 e3 (by omega))
    clear e1 e2 e3 e4 g1
    unfold PPost at HC
    go_upto_region 3 with fail
    clear f0 f1 k0 k1
    generalize (w0.setCell _ _).setCell _ _ = w2 at *
    have k0 := cell_of_one E4.out
    have k1 := cell_of_one E3.out
    go_wp2_with (go_at_call 56; (with_reducible refine HC.out.mono ?_); rintro e w3 ⟨p1, n1, c1, rfl, hP1, hg⟩; have HP1 := hid hP1; clear hP1)
    go_ret
    exact ⟨p1, n1, c1, rfl, HP1.out, grown_trans g2.out hg⟩
  · have HC := hid (H1.out _ bp bq HW.out BP.out BQ.out (by omega))
    unfold PPost at HC
    go_wp2_with (go_at_call 56; (with_reducible refine HC.out.mono ?_); rintro e w3 ⟨p1, n1, c1, rfl, hP1, hg⟩; have HP1 := hid hP1; clear hP1)
    go_ret
    exact ⟨p1, n1, c1, rfl, HP1.out, grown_trans HW.out hg⟩
set_option maxHeartbeats 8000000 in
set_option maxRecDepth 100000 in
theorem rMul62_v (H K : Nat) (B : Int) {w : World} {p q : Option Addr} {n c m d : Nat} {P Q : List Tm} (hP : IsP w p n c P) (hQ : IsP w q m d Q) (hH : H ≤ 4000) (hK : K ≤ H) (bP : BdP H P) (bQ : BdP K Q) (eP : ExP B P) (eQ : ExP B Q) (nP : NF P) (nQ : NF Q) (hB : 0 ≤ B ∧ B ≤ 1000000000) (hn : n ≤ 500) (hm : m ≤ 500) (hM : m * (K + H + 1) ≤ 9000) :
    Calls Tryz.prog 30 #[.slice p n c, .slice q m d] w (PPost w (mulP P Q)) := by
  have hlP := hP.len; have hcP := hP.cap; have hxP := hP.max
  have hlQ := hQ.len; have hcQ := hQ.cap; have hxQ := hQ.max
  have hfin : accP (rowP Q P) m = mulP P Q := by rw [mulP_comm nP nQ, ← mulP_acc nQ nP, hlQ]
  have hrow : ∀ i, i < m → (rowP Q P i).length ≤ n ∧ BdP (K + H) (rowP Q P i) ∧ ExP (B + B) (rowP Q P i) := fun i hi => by
    rw [rowP_at (by omega)]
    exact ⟨by unfold mulT; rw [List.length_map]; omega, BdP.mulT (bQ.at (by omega)) bP, ExP.mulT (eQ.at (by omega)) eP hB.1 (by omega)⟩
  have HROW := hid hrow
  have HADD := hid fun i (hi : i < m) W (hg : w.grownBy W none) p1 n1 c1 p2 n2 c2 (h1 : IsP W p1 n1 c1 (accP (rowP Q P) i)) (h2 : IsP W p2 n2 c2 (rowP Q P i)) => by
    obtain ⟨x1, x2, x3⟩ := acc_facts (L := n) (M := K + H) (B := B + B) i (fun j hj => hrow j (by omega))
    obtain ⟨y1, y2, y3⟩ := hrow i hi
    have z1 : i * (K + H + 1) ≤ m * (K + H + 1) := Nat.mul_le_mul_right _ (by omega)
    have z2 : i * n ≤ 500 * 500 := Nat.mul_le_mul (by omega) (by omega)
    exact rAdd6_v 9000 (B + B) h1 h2 (by omega) (x2.mono (by omega)) (y2.mono (by omega)) x3 y3 ⟨by omega, by omega⟩ (by have := h1.len; have := h2.len; omega)
  have HTIM := hid fun W (hg : w.grownBy W none) g1 p1 n1 c1 q1 m1 d1 a1 k1 e1 xs v (hA : IsV W g1 p1 n1 c1 q1 m1 d1 v) (hX : ZRd W .i64 a1 k1 e1 xs) (bA : Bd K v) (eA : RightZ B xs) => rtimes6_v H B (hP.keep hg) bP eP hA hX (bA.mono hK) eA ⟨hB.1, by omega⟩ (by omega) (by omega)
  have HQi := hid hQ; have HBQ := hid (And.intro bQ eQ)
  unfold PPost at HADD HTIM
  have HF := hid hfin
  clear hP hQ bP bQ eP eQ nP nQ hrow hM hfin
  go_enter Tryz.func30, Tryz.ntmps30
  go_wp2_with fail
  go_loopw [5, 6] (fun x y wr => ∃ (i : Nat) (po : Option Addr) (no co : Nat), i ≤ m ∧ x = .slice po no co ∧ y = .int .i64 i ∧ Hid (w.grownBy wr none) ∧ Hid (IsP wr po no co (accP (rowP Q P) i))) (fun _ y _ => m - (intOf y).toNat)
  case atStart => exact ⟨0, none, 0, 0, Nat.zero_le _, rfl, rfl, hid (grown_refl _ _), hid (IsP.nil _)⟩
  case round =>
    obtain ⟨i, po, no, co, hi, rfl, rfl, HG, HO⟩ := hrel
    by_cases hlt : i < m
    · have hil : i < Q.length := by omega
      obtain ⟨b, o, g1, p1, n1, c1, q1, m1, d1, a1, k1, e1, rfl, ⟨x0, x1, x2, x3⟩, hV, hX⟩ := ((HQi.out.keep HG.out).tms i hil).out
      have HT := hid (HTIM.out _ HG.out g1 p1 n1 c1 q1 m1 d1 a1 k1 e1 _ _ hV hX (HBQ.out.1.at hil) (HBQ.out.2.at hil))
      have hrw : mulT (Q[i].1, Q[i].2) P = rowP Q P i := (rowP_at hil).symm
      rw [hrw] at HT
      have HAD := hid (HADD.out i hlt)
      clear hV hX hrw
      go_wp2_with (first
        | (go_at_call 87; (with_reducible refine HT.out.mono ?_); rintro e w1 ⟨p3, n3, c3, rfl, hP3, hg⟩; have HP3 := hid hP3; replace HG := hid (grown_trans HG.out hg); replace HO := hid (HO.out.keep hg); clear hP3 hg x0 x1 x2 x3)
        | (go_at_call 26; (with_reducible refine (HAD.out _ HG.out _ _ _ _ _ _ HO.out HP3.out).mono ?_); rintro e w2 ⟨p4, n4, c4, rfl, hP4, hg⟩; have HP4 := hid hP4; replace HG := hid (grown_trans HG.out hg); clear hP4 hg))
      exact ⟨⟨i + 1, p4, n4, c4, by omega, rfl, by go_num, HG, HP4⟩, by simp [intOf]; omega⟩
    · obtain rfl : i = m := by omega
      go_wp2_with fail
      go_ret
      exact ⟨_, _, _, rfl, by first | (rw [← HF.out]; exact HO.out) | exact HO.out, HG.out⟩
theorem ExP.mulT2 {B C : Int} {t : Tm} {Q : List Tm} (h : RightZ B t.1) (k : ExP C Q) (hB : 0 ≤ B) (hC : 0 ≤ C) : ExP (B + C) (Nm.mulT t Q) := fun u hu => by
  unfold Nm.mulT at hu
  obtain ⟨s, hs, rfl⟩ := List.mem_map.1 hu
  exact RightZ.comb (h.mono (by omega)) ((k s hs).mono (show C ≤ B + C by omega)) rfl (fun i => by have := h.ex hB i; have := (k s hs).ex hC i; omega)
theorem BdP.mul2 {H K : Nat} {P Q : List Tm} (hP : BdP H P) (hQ : BdP K Q) (nP : NF P) (nQ : NF Q) : BdP (P.length * (H + K + 1)) (mulP P Q) ∧ ∀ {B C : Int}, 0 ≤ B → 0 ≤ C → ExP B P → ExP C Q → ExP (B + C) (mulP P Q) := by
  rw [← mulP_tot nP nQ]
  have A : ∀ {B C : Int}, 0 ≤ B → 0 ≤ C → ExP B P → ExP C Q → _ := fun {B C} hB hC eP eQ => tot_facts (g := rowP P Q) (L := Q.length) (M := H + K) (B := B + C) P.length 0 P.length (by omega) (fun i h1 h2 => by
    rw [rowP_at h2]
    exact ⟨by unfold Nm.mulT; rw [List.length_map]; omega, BdP.mulT (hP.at h2) hQ, ExP.mulT2 (eP.at h2) eQ hB hC⟩)
  refine ⟨?_, fun {B C} hB hC eP eQ => (A hB hC eP eQ).2.2⟩
  have hB : ∀ (k a b : Nat), b - a ≤ k → b ≤ P.length → BdP ((b - a) * (H + K + 1) - 1) (totB (rowP P Q) a b) := by
    intro k
    induction k with
    | zero => intro a b hk hb; rw [totB_none _ (by omega)]; exact fun t ht => (by cases ht)
    | succ k ih =>
      intro a b hk hb
      by_cases h0 : b ≤ a
      · rw [totB_none _ h0]; exact fun t ht => (by cases ht)
      · by_cases h1 : b = a + 1
        · subst h1
          rw [totB_one, rowP_at (by omega)]
          exact (BdP.mulT (hP.at (by omega)) hQ).mono (by rw [show a + 1 - a = 1 by omega]; omega)
        · rw [totB_two _ (by omega)]
          obtain ⟨m, hm⟩ : ∃ m, m = (a + b) / 2 := ⟨_, rfl⟩
          rw [← hm]
          have e2 : (b - a) * (H + K + 1) = (m - a) * (H + K + 1) + (b - m) * (H + K + 1) := by rw [← Nat.add_mul]; congr 1; omega
          have e3 : 1 ≤ (m - a) * (H + K + 1) := Nat.mul_pos (by omega) (by omega)
          have e4 : 1 ≤ (b - m) * (H + K + 1) := Nat.mul_pos (by omega) (by omega)
          exact ((ih a m (by omega) (by omega)).add (ih m b (by omega) hb)).mono (by omega)
  exact (hB P.length 0 P.length (by omega) (Nat.le_refl _)).mono (by rw [Nat.sub_zero]; omega)
def powP (P : List Tm) : Nat → List Tm
  | 0 => one [] 1
  | k + 1 => mulP (powP P k) P
def powH (L : Nat) : Nat → Nat
  | 0 => 1
  | k + 1 => L * (powH L k + 5)
def powL (L : Nat) : Nat → Nat
  | 0 => 1
  | k + 1 => powL L k * L
theorem pow_facts {P : List Tm} {L : Nat} (nP : NF P) (bP : BdP 4 P) (eP : ExP 8 P) (hL : P.length ≤ L) : ∀ k, k ≤ 1000 → NF (powP P k) ∧ BdP (powH L k) (powP P k) ∧ ExP (8 * (k : Int) + 8) (powP P k) ∧ (powP P k).length ≤ powL L k
  | 0, _ => by
    have h1 : Bd 1 (1 : Rat) := ⟨by decide, by decide⟩
    exact ⟨NF.one (by simp), one_bd h1, one_ex ⟨by simp, by simp, fun x hx => by cases hx⟩, one_len _ _⟩
  | k + 1, hk => by
    obtain ⟨h1, h2, h3, h4⟩ := pow_facts nP bP eP hL k (by omega)
    have h5 := BdP.mul2 bP h2 nP h1
    have h6 := BdP.mul2 h2 bP h1 nP
    refine ⟨NF.mul h1.nz nP, ?_, ?_, ?_⟩
    · show BdP _ (mulP (powP P k) P)
      rw [mulP_comm h1 nP]
      refine h5.1.mono ?_
      show _ ≤ L * (powH L k + 5)
      exact Nat.mul_le_mul hL (by omega)
    · show ExP _ (mulP (powP P k) P)
      exact (h6.2 (B := 8 * (k : Int) + 8) (C := 8) (by omega) (by omega) h3 eP).mono (by omega)
    · have h8 := mulP_len (powP P k) P
      have h9 : (powP P k).length * P.length ≤ powL L k * L := Nat.mul_le_mul h4 hL
      show (mulP (powP P k) P).length ≤ powL L k * L
      omega
end Go.Proofs.YtceoegmflbgckaaGreatDoor

set_option linter.unusedVariables false
set_option linter.unusedSimpArgs false
namespace Go.Proofs.YtceoegmflbgckaaGreatDoor
open Go Go.RowKit _root_.Nm
set_option maxHeartbeats 8000000 in
set_option maxRecDepth 100000 in
theorem rLarge6_v {w : World} {p : Option Addr} {n c : Nat} {P : List Tm} (hP : IsP w p n c P) (eP : ExP 1048576 P) (hn : n ≤ 4000) :
    Calls Tryz.prog 94 #[.slice p n c] w fun e w' => e = .returned (.bool false) ∧ w.grownBy w' none := by
  have hl := hP.len; have hc := hP.cap; have hmx := hP.max
  have HP := hid hP; have HL := hid hl; have HE := hid eP
  clear hP hl eP
  go_enter Tryz.func94, Tryz.ntmps94
  go_wp2_with fail
  go_loopw [3] (fun x wr => ∃ (i : Nat), i ≤ n ∧ x = .int .i64 i ∧ Hid (w.grownBy wr none)) (fun x _ => n - (intOf x).toNat)
  case atStart => exact ⟨0, Nat.zero_le _, rfl, hid (grown_refl _ _)⟩
  case round =>
    obtain ⟨i, hi, rfl, HG⟩ := hrel
    by_cases hlt : i < n
    · have hil : i < P.length := by have := HL.out; omega
      obtain ⟨b, o, g1, p1, n1, c1, q1, m1, d1, a1, k1, e1, rfl, ⟨x0, x1, x2, x3⟩, hV, hX⟩ := ((HP.out.keep HG.out).tms i hil).out
      have hE := HE.out.at hil
      obtain ⟨xs, hxs⟩ : ∃ xs, xs = P[i].1 := ⟨_, rfl⟩
      rw [← hxs] at hX hE
      have HX := hid hX; have HXB := hid hE.bound; have hkc := hX.cap; have hkm := hX.max; have hkl := hid hX.len
      clear hV hX hxs hE x0 x1 x2
      go_upto_region 5 with fail
      go_loopw [4] (fun y w2 => ∃ (j : Nat), j ≤ k1 ∧ y = .int .i64 j ∧ Hid (wr.grownBy w2 none)) (fun y _ => k1 - (intOf y).toNat)
      case atStart => exact ⟨0, Nat.zero_le _, rfl, hid (grown_refl _ _)⟩
      case round =>
        obtain ⟨j, hj, rfl, HH⟩ := hrel
        replace x3 := HH.out.cell x3 (by simp)
        by_cases hjk : j < k1
        · have hjx : j < xs.length := by have := hkl.out; omega
          obtain ⟨ba, oa, rfl, hcj⟩ := HX.out.cel j hjx
          have hxb := (HXB.out _ (List.getElem_mem hjx)).2
          obtain ⟨x, hx⟩ : ∃ x, x = xs[j] := ⟨_, rfl⟩
          rw [← hx] at hcj hxb
          replace hcj := HH.out.cell hcj (by simp)
          clear hx
          go_wp2_with fail
          exact ⟨⟨j + 1, by omega, by go_num, HH⟩, by simp [intOf]; omega⟩
        · obtain rfl : j = k1 := by omega
          go_wp2_with fail
          exact ⟨⟨i + 1, by omega, by go_num, hid (grown_trans HG.out HH.out)⟩, by simp [intOf]; omega⟩
    · obtain rfl : i = n := by omega
      go_wp2_with fail
      go_ret
      exact ⟨ret_eq (congrArg Value.bool (decide_eq_false (by omega))), HG.out⟩
theorem lg2_v (x : Int) (w : World) (h : x ≤ 1048576) :
    Calls Tryz.prog 147 #[.int .i64 x] w fun e w' => e = .returned (.bool false) ∧ w = w' := by
  go_enter Tryz.func147, Tryz.ntmps147
  go_wp2
  go_ret
  exact ⟨ret_eq (congrArg Value.bool (decide_eq_false (by omega))), rfl⟩
theorem idxLg_v (a : Option Addr) (n c : Nat) (xs : List Int) (w : World) (h : ZRd w .i64 a n c xs) (hb : ∀ x ∈ xs, x ≤ 1048576) :
    Calls Tryz.prog 117 #[.slice a n c, .func (.func 147) #[] #[]] w fun e w' => e = .returned (.int .i64 (-1)) ∧ w = w' := by
  have HL := hid h.len
  have hcap := h.cap
  have hmax := h.max
  have HB := hid hb
  clear hb
  go_enter Tryz.func117, Tryz.ntmps117
  go_wp2
  go_loop [8] (fun i => ∃ k : Nat, k ≤ n ∧ i = .int .i64 k) (fun i => n - (intOf i).toNat)
  case atStart => exact ⟨0, Nat.zero_le _, rfl⟩
  case round =>
    obtain ⟨k, hk, rfl⟩ := hrel
    by_cases hlt : k < n
    · have hi : k < xs.length := by rw [HL.out]; exact hlt
      obtain ⟨b, o, rfl, hci⟩ := h.cel k hi
      have hx1 := HB.out _ (List.getElem_mem hi)
      obtain ⟨x, hx⟩ : ∃ x, x = xs[k] := ⟨_, rfl⟩
      rw [← hx] at hci hx1
      have R := hid (lg2_v x w hx1)
      clear hx h hx1
      have hki : (k : Int) < (n : Int) := by omega
      go_wp2_with (go_at_call 147; (with_reducible refine (R.out).mono ?_); rintro e w' ⟨rfl, rfl⟩)
      exact ⟨⟨k + 1, by omega, rfl⟩, by simp [intOf]; omega⟩
    · obtain rfl : k = n := by omega
      go_wp2
      go_ret
      exact ⟨rfl, rfl⟩
theorem ctLg_v (a : Option Addr) (n c : Nat) (xs : List Int) (w : World) (h : ZRd w .i64 a n c xs) (hb : ∀ x ∈ xs, x ≤ 1048576) :
    Calls Tryz.prog 59 #[.slice a n c, .func (.func 147) #[] #[]] w fun e w' => e = .returned (.bool false) ∧ w = w' := by
  have R := hid (idxLg_v a n c xs w h hb)
  go_enter Tryz.func59, Tryz.ntmps59
  go_wp2_with fail
  refine (R.out).mono ?_
  rintro e w' ⟨rfl, rfl⟩
  go_wp2
  go_ret
  exact ⟨rfl, rfl⟩
set_option maxRecDepth 100000 in
theorem lg1_v {w : World} (g1 : Bool) (p1 : Option Addr) (n1 c1 : Nat) (q1 : Option Addr) (m1 d1 : Nat) {a1 : Option Addr} {k1 e1 : Nat} {xs : List Int} (hx : ZRd w .i64 a1 k1 e1 xs) (hb : ∀ x ∈ xs, x ≤ 1048576) :
    Calls Tryz.prog 146 #[.agg #[.bool g1, .slice p1 n1 c1, .slice q1 m1 d1, .slice a1 k1 e1]] w fun e w' => e = .returned (.bool false) ∧ w.grownBy w' none := by
  have HC := hid fun W (hg : w.grownBy W none) => ctLg_v a1 k1 e1 xs W (hx.keep hg) hb
  clear hx hb
  have hW := World.grownBy_alloc w (.cells #[.bool g1, .slice p1 n1 c1, .slice q1 m1 d1, .slice a1 k1 e1] 33 (0, 0)) none
  obtain ⟨k0, k1', k2', k3⟩ := box4p (blk0 w (.cells #[.bool g1, .slice p1 n1 c1, .slice q1 m1 d1, .slice a1 k1 e1] 33 (0, 0)))
  clear k0 k1' k2'
  go_enter Tryz.func146, Tryz.ntmps146
  go_upto_region 1 with fail
  generalize (w.alloc _) = w0 at *
  go_wp2_with (go_at_call 59; (with_reducible refine (HC.out _ hW).mono ?_); rintro e w1 ⟨rfl, rfl⟩)
  go_ret
  exact ⟨rfl, hW⟩
set_option maxHeartbeats 8000000 in
set_option maxRecDepth 100000 in
theorem idxT_v {w : World} {p : Option Addr} {n c : Nat} {P : List Tm} (hP : IsP w p n c P) (eP : ExP 1048576 P) :
    Calls Tryz.prog 174 #[.slice p n c, .func (.func 146) #[] #[]] w fun e w' => e = .returned (.int .i64 (-1)) ∧ w.grownBy w' none := by
  have hl := hP.len; have hc := hP.cap; have hmx := hP.max
  have HP := hid hP; have HL := hid hl; have HE := hid eP
  clear hP hl eP
  go_enter Tryz.func174, Tryz.ntmps174
  go_wp2_with fail
  go_loopw [8] (fun x wr => ∃ (i : Nat), i ≤ n ∧ x = .int .i64 i ∧ Hid (w.grownBy wr none)) (fun x _ => n - (intOf x).toNat)
  case atStart => exact ⟨0, Nat.zero_le _, rfl, hid (grown_refl _ _)⟩
  case round =>
    obtain ⟨i, hi, rfl, HG⟩ := hrel
    by_cases hlt : i < n
    · have hil : i < P.length := by have := HL.out; omega
      obtain ⟨b, o, g1, p1, n1, c1, q1, m1, d1, a1, k1, e1, rfl, ⟨x0, x1, x2, x3⟩, hV, hX⟩ := ((HP.out.keep HG.out).tms i hil).out
      have hE := HE.out.at hil
      have R := hid (lg1_v g1 p1 n1 c1 q1 m1 d1 hX fun x hx => (hE.bound x hx).2)
      clear hV hX hE
      go_wp2_with (go_at_call 146; (with_reducible refine (R.out).mono ?_); rintro e w1 ⟨rfl, hg⟩; replace HG := hid (grown_trans HG.out hg); clear hg)
      exact ⟨⟨i + 1, by omega, by go_num, HG⟩, by simp [intOf]; omega⟩
    · obtain rfl : i = n := by omega
      go_wp2_with fail
      go_ret
      exact ⟨rfl, HG.out⟩
theorem ctT_v {w : World} {p : Option Addr} {n c : Nat} {P : List Tm} (hP : IsP w p n c P) (eP : ExP 1048576 P) :
    Calls Tryz.prog 145 #[.slice p n c, .func (.func 146) #[] #[]] w fun e w' => e = .returned (.bool false) ∧ w.grownBy w' none := by
  have R := hid (idxT_v hP eP)
  clear hP eP
  go_enter Tryz.func145, Tryz.ntmps145
  go_wp2_with (go_at_call 174; (with_reducible refine (R.out).mono ?_); rintro e w1 ⟨rfl, hg⟩; have HG := hid hg; clear hg)
  go_ret
  exact ⟨rfl, HG.out⟩
theorem large6_v {w : World} {p : Option Addr} {n c : Nat} {P : List Tm} (hP : IsP w p n c P) (eP : ExP 1048576 P) (hn : n ≤ 4000) :
    Calls Tryz.prog 92 #[.slice p n c] w fun e w' => e = .returned (.bool false) ∧ w.grownBy w' none := by
  have hc := hP.cap; have hmx := hP.max
  have R := hid (ctT_v hP eP)
  clear hP eP
  go_enter Tryz.func92, Tryz.ntmps92
  go_wp2_with (go_at_call 145; (with_reducible refine (R.out).mono ?_); rintro e w1 ⟨rfl, hg⟩; have HG := hid hg; clear hg)
  go_ret
  exact ⟨ret_eq (congrArg Value.bool (decide_eq_false (by omega))), HG.out⟩
end Go.Proofs.YtceoegmflbgckaaGreatDoor

set_option linter.unusedVariables false
set_option linter.unusedSimpArgs false
namespace Go.Proofs.YtceoegmflbgckaaGreatDoor
open Go Go.RowKit _root_.Nm
theorem IsP.take {w : World} {p : Option Addr} {n c : Nat} {P : List Tm} (h : IsP w p n c P) {k : Nat} (hk : k ≤ n) : IsP w p k c (P.take k) := by
  have hl := h.len
  refine ⟨by rw [List.length_take]; omega, Nat.le_trans hk h.cap, h.max, fun i hi => ?_⟩
  rw [List.length_take] at hi
  have := h.tms i (by omega)
  rw [List.getElem_take]
  exact this
theorem IsP.drop {w : World} {b o n c : Nat} {P : List Tm} (h : IsP w (some ⟨b, o, none⟩) n c P) {k : Nat} (hk : k ≤ n) : IsP w (some ⟨b, o + k * 4, none⟩) (n - k) (c - k) (P.drop k) := by
  have hl := h.len
  have hc := h.cap
  have hm := h.max
  refine ⟨by rw [List.length_drop]; omega, by omega, by omega, fun i hi => ?_⟩
  rw [List.length_drop] at hi
  obtain ⟨b', o', cs, e, h2, h3⟩ := h.tms (k + i) (by omega)
  cases e
  rw [List.getElem_drop]
  refine ⟨b, o + k * 4, cs, rfl, fun j hj => ?_, h3⟩
  have := h2 j hj
  rw [show o + k * 4 + i * 4 + j = o + (k + i) * 4 + j by rw [Nat.add_mul]; omega]
  exact this
theorem IsP.relen {w : World} {p : Option Addr} {n m c : Nat} {P : List Tm} (h : IsP w p n c P) (e : n = m) : IsP w p m c P := e ▸ h
theorem IsQ.bd {w : World} {g : Bool} {p q : Option Addr} {n c m d H : Nat} {v : Rat} (h : IsQ w g p n c q m d v) (h0 : 0 < H) (h1 : n ≤ H) (h2 : m ≤ H) : Bd H v := by
  obtain ⟨N, D, hN, hD, rfl⟩ := h
  rcases Nat.eq_zero_or_pos D with e | e
  · rw [e, Rat.mkRat_zero]
    exact ⟨Nat.pow_pos (by omega), Nat.one_lt_pow (by omega) (by omega)⟩
  · exact Bd.mk e (Nat.lt_of_lt_of_le hN.1.lt (Nat.pow_le_pow_right (by omega) h1)) (Nat.lt_of_lt_of_le hD.lt (Nat.pow_le_pow_right (by omega) h2))
def Spot (p : Option Addr) : Prop := ∀ a, p = some a → ∃ b o, a = ⟨b, o, none⟩
theorem spotN : Spot none := fun a h => by cases h
theorem spotQ {w : World} {base : Nat} {e : TypeId} {k : Nat} {p : Option Addr} {n c : Nat} {l : List (List Value)} (h : QOwn w base e k p n c l) : Spot p := fun a ha => by
  rcases h.own with ⟨h1, _⟩ | ⟨g, cur, h1, _⟩
  · rw [h1] at ha; cases ha
  · rw [h1] at ha; cases ha; exact ⟨g, 0, rfl⟩
def PPostS (w : World) (P : List Tm) (e : Ending) (w' : World) : Prop := ∃ (p : Option Addr) (n c : Nat), e = .returned (.slice p n c) ∧ (IsP w' p n c P ∧ Spot p) ∧ w.grownBy w' none
theorem IsP.empty (w : World) (p : Option Addr) (c : Nat) (hc : c ≤ 9223372036854775807) : IsP w p 0 c [] := ⟨rfl, by omega, hc, fun i hi => absurd hi (Nat.not_lt_zero i)⟩
set_option maxHeartbeats 64000000 in
set_option maxRecDepth 100000 in
theorem rAddN_v {w : World} (c : Nat) (hc : c ≤ 9223372036854775807) {g1 : Bool} {p1 q1 : Option Addr} {n1 c1 m1 d1 : Nat} {v : Rat} (hA : IsQ w g1 p1 n1 c1 q1 m1 d1 v) (hn1 : n1 ≤ 9000) (hm1 : m1 ≤ 9000) {a1 : Option Addr} {k1 e1 : Nat} {ms : List Int} (hM : ZRd w .i64 a1 k1 e1 ms) :
    Calls Tryz.prog 71 #[.slice none 0 c, .agg #[.bool g1, .slice p1 n1 c1, .slice q1 m1 d1], .slice a1 k1 e1] w (PPostS w (one ms v)) := by
  have HSG := hid fun W (hg : w.grownBy W none) => rSign3_v 9000 (hA.keep hg) hn1 hm1 (by omega)
  have HNO := hid fun W (hg : w.grownBy W none) => norm_v 9000 (hA.keep hg) hn1 hm1 (by omega)
  obtain ⟨s, hs⟩ : ∃ s, s = cmpR v 0 := ⟨_, rfl⟩
  rw [← hs] at HSG
  have HSV : Hid (s = 0 ↔ v = 0) := hid (by rw [hs]; exact cmpR_zero)
  have HP := hid (IsP.empty w none c hc); have HM := hid (And.intro hM trivial)
  have gA := World.grownBy_alloc w (.cells #[.bool g1, .slice p1 n1 c1, .slice q1 m1 d1] 29 (0, 0)) none
  have BT := hid (blk0 w (.cells #[.bool g1, .slice p1 n1 c1, .slice q1 m1 d1] 29 (0, 0)))
  have HFIN : Hid (one ms v = if v = 0 then [] else [(ms, v)]) := hid rfl
  unfold VPost at HNO
  clear hA hM hs
  go_enter Tryz.func71, Tryz.ntmps71
  go_upto_region 2 with fail
  have hbt0 := lt_of_block BT.out
  obtain ⟨bt, hbt⟩ : ∃ x, x = w.heap.size := ⟨_, rfl⟩
  rw [← hbt] at BT hbt0 ⊢
  clear hbt
  have HW := hid gA
  clear gA
  generalize w.alloc _ = w0 at *
  go_loopw [7] (fun x wr => x = .int .i64 0 ∧ Hid (w.grownBy wr none) ∧ Hid (wr.heap[bt]? = some (.cells #[.bool g1, .slice p1 n1 c1, .slice q1 m1 d1] 29 (0, 0)))) (fun _ _ => 0)
  case atStart => exact ⟨rfl, HW, BT⟩
  case round =>
    clear HW BT
    obtain ⟨rfl, HG, BT⟩ := hrel
    obtain ⟨k0, k1', k2'⟩ := box3p BT.out
    have hsw := HG.out.size
    have HQA := hid (QOwn.nil wr w.heap.size 33 4)
    have HRA := hid (RwS.nil wr none)
    by_cases hs0 : s = 0
    · subst hs0
      go_wp2_with (first | (go_at_call 66; (with_reducible refine (HSG.out _ HG.out).mono ?_); rintro e w5 ⟨rfl, hg⟩; replace HG := hid (grown_trans HG.out hg); replace BT := hid (keepB BT.out hg); replace HQA := hid (HQA.out.keep hg); replace HRA := hid (HRA.out.keep hg); have hswB := HG.out.size; have hcmA := HQA.out.cap; clear hg; obtain ⟨k0, k1', k2'⟩ := box3p BT.out; obtain ⟨rsB, hsB, hlB, htB⟩ := ((HP.out).keep HG.out).rows; have hnoB := rows_no hlB htB; have h1cB := rows_one hlB htB) | ((with_reducible refine wlq_append _ rfl (.tmp 83) (.tmp 86) 35 rfl 33 4 (.agg #[.bool false, .slice none 0 0, .slice none 0 0, .slice none 0 0]) 80 Tryz.underlying35 infoTm tmZs four_pos tmZn w.heap.size none (0) 0 [] rfl HQA.out _ 0 c rsB rfl hsB hnoB h1cB (by omega) (by omega) (by omega) ?_); intro pz cz wZ hqZ hgZ hatZ; have HRZ := hid (RwS.many HQA.out HRA.out hlB htB hgZ hatZ); have HQZ := hid hqZ; replace HG := hid (grown_new HG.out hgZ (fun g e => by cases hpm : none with | none => (rw [hpm] at e; simp at e) | some q => (rw [hpm] at e; simp at e; have := (HQA.out.lt q hpm).1; omega))); clear hqZ hgZ hatZ))
      all_goals
        go_ret
        refine ⟨_, _, _, rfl, ⟨?_, by first | exact spotQ HQZ.out | exact spotQ HQB.out | exact spotN⟩, HG.out⟩
        have hF := HFIN.out
        rw [if_pos (HSV.out.1 (by first | rfl | trivial))] at hF
        rw [hF]
        first | exact IsP.empty _ _ _ (by omega) | exact (IsP.ofQ HQZ.out HRZ.out).relen (by omega)
    · have HV0 : Hid (v ≠ 0) := hid fun h => hs0 (HSV.out.2 h)
      have hsn : (s != 0) = true := by simpa using hs0
      go_wp2_with (first | (go_at_call 66; (with_reducible refine (HSG.out _ HG.out).mono ?_); rintro e w5 ⟨rfl, hg⟩; replace HG := hid (grown_trans HG.out hg); replace BT := hid (keepB BT.out hg); replace HQA := hid (HQA.out.keep hg); replace HRA := hid (HRA.out.keep hg); have hswB := HG.out.size; have hcmA := HQA.out.cap; clear hg; obtain ⟨k0, k1', k2'⟩ := box3p BT.out; obtain ⟨rsB, hsB, hlB, htB⟩ := ((HP.out).keep HG.out).rows; have hnoB := rows_no hlB htB; have h1cB := rows_one hlB htB) | (go_at_call 125; (with_reducible refine (HNO.out _ HG.out).mono ?_); rintro e _ ⟨g3, p3, n3, c3, q3, m3, d3, rfl, hV3, hn3, hm3, hg⟩; replace HG := hid (grown_trans HG.out hg); replace HQA := hid (HQA.out.keep hg); replace HRA := hid (HRA.out.keep hg); have hswC := HG.out.size; have HT3 := hid (show TmC _ [.bool g3, .slice p3 n3 c3, .slice q3 m3 d3, .slice a1 k1 e1] (ms, v) from ⟨_, _, _, _, _, _, _, _, _, _, rfl, hV3, HM.out.1.keep HG.out⟩); clear hg hV3 k0 k1' k2') | ((with_reducible refine wlq_append _ rfl (.tmp 76) (.tmp 81) 35 rfl 33 4 (.agg #[.bool false, .slice none 0 0, .slice none 0 0, .slice none 0 0]) 80 Tryz.underlying35 infoTm tmZs four_pos tmZn w.heap.size none (0) 0 [] rfl (QOwn.keep HQA.out (World.grownBy_alloc _ _ _)) _ 1 _ [[.bool g3, .slice p3 n3 c3, .slice q3 m3 d3, .slice a1 k1 e1]] rfl (one_srd _ _ 4 _ rfl _ (by simp)) (lone (noInt4 _ _ _ _ _ _ _ _ _ _)) (lone (one4 _ _ _ _ _ _ _ _ _ _)) (by omega) (by omega) (by simp; omega) ?_); intro pb cb wB hqB hgB hatB; have HRB := hid (RwS.snoc (QOwn.keep HQA.out (World.grownBy_alloc _ _ _)) (RwS.keep HRA.out (World.grownBy_alloc _ _ _)) (TmC.keep HT3.out (World.grownBy_alloc _ _ _)) hgB hatB); have HQB := hid hqB; replace HG := hid (grown_new (grown_trans HG.out (World.grownBy_alloc _ _ _)) hgB (fun g e => by cases hpm : none with | none => (rw [hpm] at e; simp at e) | some q => (rw [hpm] at e; simp at e; have := (HQA.out.lt q hpm).1; omega))); have hswD := HG.out.size; have hcmB := HQB.out.cap; clear hqB hgB hatB; obtain ⟨rsB, hsB, hlB, htB⟩ := ((HP.out).keep HG.out).rows; have hnoB := rows_no hlB htB; have h1cB := rows_one hlB htB) | ((with_reducible refine wlq_append _ rfl (.tmp 83) (.tmp 86) 35 rfl 33 4 (.agg #[.bool false, .slice none 0 0, .slice none 0 0, .slice none 0 0]) 80 Tryz.underlying35 infoTm tmZs four_pos tmZn w.heap.size pb (1) cb _ rfl HQB.out _ 0 c rsB rfl hsB hnoB h1cB (by omega) (by omega) (by omega) ?_); intro pz cz wZ hqZ hgZ hatZ; have HRZ := hid (RwS.many HQB.out HRB.out hlB htB hgZ hatZ); have HQZ := hid hqZ; replace HG := hid (grown_new HG.out hgZ (fun g e => by cases hpm : pb with | none => (rw [hpm] at e; simp at e) | some q => (rw [hpm] at e; simp at e; have := (HQB.out.lt q hpm).1; omega))); clear hqZ hgZ hatZ))
      all_goals
        go_ret
        refine ⟨_, _, _, rfl, ⟨?_, by first | exact spotQ HQZ.out | exact spotQ HQB.out | exact spotN⟩, HG.out⟩
        have hF := HFIN.out
        rw [if_neg HV0.out] at hF
        rw [hF]
        first | exact (IsP.ofQ HQB.out HRB.out).relen (by omega) | exact (IsP.ofQ HQZ.out HRZ.out).relen (by omega)
end Go.Proofs.YtceoegmflbgckaaGreatDoor

set_option linter.unusedVariables false
set_option linter.unusedSimpArgs false
namespace Go.Proofs.YtceoegmflbgckaaGreatDoor
open Go Go.RowKit _root_.Nm
theorem powH_one : ∀ i, powH 1 i = 5 * i + 1
  | 0 => rfl
  | i + 1 => by show 1 * (powH 1 i + 5) = _; rw [powH_one i]; omega
theorem powL_one : ∀ i, powL 1 i = 1
  | 0 => rfl
  | i + 1 => by show powL 1 i * 1 = 1; rw [powL_one i]
theorem pow_small : ∀ i, i < 6 → powH 3 i ≤ 2100 ∧ powL 3 i ≤ 243 ∧ powL 3 (i + 1) ≤ 729 ∧ powH 3 (i + 1) ≤ 6200 := by decide
theorem pow_pack {P : List Tm} {n : Nat} (nP : NF P) (bP : BdP 4 P) (eP : ExP 8 P) (hl : P.length = n) {k : Nat} (hk : (k ≤ 6 ∧ n ≤ 3) ∨ (k ≤ 400 ∧ n ≤ 1)) : ∀ i, i < k → NF (powP P i) ∧ BdP 2100 (powP P i) ∧ ExP 3300 (powP P i) ∧ (powP P i).length ≤ 243 ∧ ExP 3300 (powP P (i + 1)) ∧ (powP P (i + 1)).length ≤ 729 := fun i hi => by
  rcases hk with ⟨h1, h2⟩ | ⟨h1, h2⟩
  · obtain ⟨a1, a2, a3, a4⟩ := pow_facts (L := 3) nP bP eP (by omega) i (by omega)
    obtain ⟨b1, b2, b3, b4⟩ := pow_facts (L := 3) nP bP eP (by omega) (i + 1) (by omega)
    obtain ⟨s1, s2, s3, -⟩ := pow_small i (by omega)
    exact ⟨a1, a2.mono s1, a3.mono (by omega), by omega, b3.mono (by omega), by omega⟩
  · obtain ⟨a1, a2, a3, a4⟩ := pow_facts (L := 1) nP bP eP (by omega) i (by omega)
    obtain ⟨b1, b2, b3, b4⟩ := pow_facts (L := 1) nP bP eP (by omega) (i + 1) (by omega)
    rw [powH_one] at a2
    rw [powL_one] at a4 b4
    exact ⟨a1, a2.mono (by omega), a3.mono (by omega), by omega, b3.mono (by omega), by omega⟩
theorem pow_final {P : List Tm} {n : Nat} (nP : NF P) (bP : BdP 4 P) (eP : ExP 8 P) (hl : P.length = n) {k : Nat} (hk : (k ≤ 6 ∧ n ≤ 3) ∨ (k ≤ 400 ∧ n ≤ 1)) : Pk 6200 3300 729 (powP P k) := by
  rcases hk with ⟨h1, h2⟩ | ⟨h1, h2⟩
  · obtain ⟨a1, a2, a3, a4⟩ := pow_facts (L := 3) nP bP eP (by omega) k (by omega)
    have : powH 3 k ≤ 6200 ∧ powL 3 k ≤ 729 := (show ∀ k, k < 7 → powH 3 k ≤ 6200 ∧ powL 3 k ≤ 729 by decide) k (by omega)
    exact ⟨a1, a2.mono this.1, a3.mono (by omega), by omega⟩
  · obtain ⟨a1, a2, a3, a4⟩ := pow_facts (L := 1) nP bP eP (by omega) k (by omega)
    rw [powH_one] at a2
    rw [powL_one] at a4
    exact ⟨a1, a2.mono (by omega), a3.mono (by omega), by omega⟩
set_option maxHeartbeats 4000000 in
set_option maxRecDepth 100000 in
theorem rConst6_v {w : World} {g1 : Bool} {p1 q1 : Option Addr} {n1 c1 m1 d1 : Nat} {v : Rat} (hA : IsV w g1 p1 n1 c1 q1 m1 d1 v) (hn1 : n1 ≤ 20) (hm1 : m1 ≤ 20) :
    Calls Tryz.prog 93 #[.agg #[.bool g1, .slice p1 n1 c1, .slice q1 m1 d1]] w (PPost w (one [] v)) := by
  have gA := World.grownBy_alloc w (.cells #[.bool g1, .slice p1 n1 c1, .slice q1 m1 d1] 29 (0, 0)) none
  have HC := hid (rAddN_v 0 (by omega) (hA.keep gA).q (by omega) (by omega) (ZRd.nil _))
  obtain ⟨k0, k1, k2⟩ := box3p (blk0 w (.cells #[.bool g1, .slice p1 n1 c1, .slice q1 m1 d1] 29 (0, 0)))
  unfold PPostS at HC
  clear hA
  go_enter Tryz.func93, Tryz.ntmps93
  go_upto_region 1 with fail
  generalize w.alloc _ = w0 at *
  go_wp2_with (go_at_call 71; (with_reducible refine HC.out.mono ?_); rintro e w1 ⟨p2, n2, c2, rfl, ⟨hP2, -⟩, hg⟩; have HP2 := hid hP2; clear hP2)
  go_ret
  exact ⟨p2, n2, c2, rfl, HP2.out, grown_trans gA hg⟩
theorem powE_v {w : World} {p : Option Addr} {n c : Nat} {z : Int} (hz : z < 0 ∨ 4000 < z) :
    Calls Tryz.prog 35 #[.slice p n c, .int .i64 z] w fun e w' => e = .returned (.tuple #[.slice none 0 0, .int .i64 2]) ∧ w.grownBy w' none := by
  rcases hz with h | h
  all_goals
    go_enter Tryz.func35, Tryz.ntmps35
    go_wp2_with fail
    exact bodyPost_ret (v := .tuple #[.slice none 0 0, .int .i64 2]) (by simp [results, Tryz.results35, go_sem]) rfl ⟨rfl, grown_refl _ _⟩
theorem rPowE_v {w : World} {p : Option Addr} {n c : Nat} {z : Int} (hz : z < 0 ∨ 4000 < z) :
    Calls Tryz.prog 36 #[.slice p n c, .int .i64 z] w fun e w' => e = .returned (.tuple #[.slice none 0 0, .int .i64 2]) ∧ w.grownBy w' none := by
  rcases hz with h | h
  all_goals
    go_enter Tryz.func36, Tryz.ntmps36
    go_wp2_with fail
    exact bodyPost_ret (v := .tuple #[.slice none 0 0, .int .i64 2]) (by simp [results, Tryz.results36, go_sem]) rfl ⟨rfl, grown_refl _ _⟩
set_option maxHeartbeats 16000000 in
set_option maxRecDepth 100000 in
theorem pow6_v {w : World} (T : Tb w) {p : Option Addr} {n c : Nat} {P : List Tm} (hP : IsP w p n c P) (nP : NF P) (bP : BdP 4 P) (eP : ExP 8 P) {k : Nat} (hk : (k ≤ 6 ∧ n ≤ 3) ∨ (k ≤ 400 ∧ n ≤ 1)) :
    Calls Tryz.prog 35 #[.slice p n c, .int .i64 k] w fun e w' => ∃ (p1 : Option Addr) (n1 c1 : Nat), e = .returned (.tuple #[.slice p1 n1 c1, .int .i64 0]) ∧ IsP w' p1 n1 c1 (powP P k) ∧ w.grownBy w' none := by
  have hl := hP.len; have hc := hP.cap; have hmx := hP.max
  have hn3 : n ≤ 3 := by omega
  have hk4 : k ≤ 400 := by omega
  have HPK := hid (pow_pack nP bP eP hl hk)
  have HFI := hid (pow_final nP bP eP hl hk)
  have e1 : ((1 : Int) : Rat) = 1 := rfl
  have HO := hid fun W : World => ratOf_v 1 W (by omega) (by omega)
  have HCO := hid fun W (hg : w.grownBy W none) g p n c q m d (h : IsV W g p n c q m d ((1 : Int) : Rat)) (hn : n ≤ 4) (hm : m ≤ 4) => const_v 4 (T.keep hg) h.q hn hm (by omega)
  have HPR := hid fun i (hi : i < k) W (hg : w.grownBy W none) po no co (h : IsP W po no co (powP P i)) => show Calls Tryz.prog 86 #[.slice po no co, .slice p n c] W (PPost W (powP P (i + 1))) from product2_v 2100 4 2100 3300 (T.keep hg) h (hP.keep hg) (HPK.out i hi).2.1 bP (HPK.out i hi).2.2.1 (eP.mono (by omega)) ⟨by omega, by omega⟩ (HPK.out i hi).1 nP (by have := h.len; have := (HPK.out i hi).2.2.2.1; omega) (by omega) (Nat.le_trans (Nat.mul_le_mul (show no ≤ 243 by have := h.len; have := (HPK.out i hi).2.2.2.1; omega) hn3) (by omega)) ⟨by omega, by omega, by omega⟩ (Nat.le_trans (Nat.mul_le_mul_right _ (Nat.le_trans (Nat.min_le_right _ _) hn3)) (by omega))
  have HLA := hid fun i (hi : i < k) W (hg : w.grownBy W none) po no co (h : IsP W po no co (powP P (i + 1))) => large6_v h ((HPK.out i hi).2.2.2.2.1.mono (by omega)) (by have := h.len; have := (HPK.out i hi).2.2.2.2.2; omega)
  have HCL := hid fun W (hg : w.grownBy W none) po no co (h : IsP W po no co (powP P k)) => clone_v 6200 3300 h (by omega) HFI.out.bd HFI.out.ex (by have := h.len; have := HFI.out.len; omega)
  rw [e1] at HO HCO
  unfold VPost at HO
  unfold PPost at HCO
  unfold PPost at HPR HCL
  clear T hP nP bP eP hk e1 HPK
  go_enter Tryz.func35, Tryz.ntmps35
  go_upto_region 4 with (first | (go_at_call 91; (with_reducible refine (HO.out _).mono ?_); rintro e w1 ⟨g1, p1, n1, c1, q1, m1, d1, rfl, hV1, hn1, hm1, hg1⟩; have HV1 := hid hV1; have HG1 := hid hg1; clear hV1 hg1) | (go_at_call 88; (with_reducible refine (HCO.out _ HG1.out _ _ _ _ _ _ _ HV1.out hn1 hm1).mono ?_); rintro e w2 ⟨p2, n2, c2, rfl, hP2, hg2⟩; have HP2 := hid hP2; have HG := hid (grown_trans HG1.out hg2); clear hP2 hg2 hn1 hm1 HV1 HG1))
  skip
  go_wp2_with fail
  go_loopw [6, 16] (fun x y wr => ∃ (i : Nat) (po : Option Addr) (no co : Nat), i ≤ k ∧ x = .slice po no co ∧ y = .int .i64 i ∧ Hid (w.grownBy wr none) ∧ Hid (IsP wr po no co (powP P i))) (fun _ y _ => k - (intOf y).toNat)
  case atStart => exact ⟨0, _, _, _, Nat.zero_le _, rfl, rfl, HG, HP2⟩
  case round =>
    clear HG HP2
    obtain ⟨i, po, no, co, hi, rfl, rfl, HG, HO⟩ := hrel
    have hoc := HO.out.cap; have hom := HO.out.max
    by_cases hlt : i < k
    · have HPRi := hid (HPR.out i hlt)
      have HLAi := hid (HLA.out i hlt)
      go_wp2_with (first | (go_at_call 86; (with_reducible refine (HPRi.out _ HG.out _ _ _ HO.out).mono ?_); rintro e w3 ⟨p3, n3, c3, rfl, hP3, hg3⟩; have HP3 := hid hP3; replace HG := hid (grown_trans HG.out hg3); clear hP3 hg3) | (go_at_call 92; (with_reducible refine (HLAi.out _ HG.out _ _ _ HP3.out).mono ?_); rintro e w4 ⟨rfl, hg4⟩; replace HG := hid (grown_trans HG.out hg4); replace HP3 := hid (HP3.out.keep hg4); clear hg4))
      exact ⟨⟨i + 1, p3, n3, c3, by omega, rfl, by go_num, HG, HP3⟩, by simp [intOf]; omega⟩
    · obtain rfl : i = k := by omega
      go_wp2_with (go_at_call 82; (with_reducible refine (HCL.out _ HG.out _ _ _ HO.out).mono ?_); rintro e w5 ⟨p5, n5, c5, rfl, hP5, hg5⟩; have HP5 := hid hP5; replace HG := hid (grown_trans HG.out hg5); clear hP5 hg5)
      exact bodyPost_ret (v := .tuple #[.slice p5 n5 c5, .int .i64 0]) (by simp [results, Tryz.results35, go_sem]) rfl ⟨p5, n5, c5, rfl, HP5.out, HG.out⟩
set_option maxHeartbeats 16000000 in
set_option maxRecDepth 100000 in
theorem rPow6_v {w : World} {p : Option Addr} {n c : Nat} {P : List Tm} (hP : IsP w p n c P) (nP : NF P) (bP : BdP 4 P) (eP : ExP 8 P) {k : Nat} (hk : (k ≤ 6 ∧ n ≤ 3) ∨ (k ≤ 400 ∧ n ≤ 1)) :
    Calls Tryz.prog 36 #[.slice p n c, .int .i64 k] w fun e w' => ∃ (p1 : Option Addr) (n1 c1 : Nat), e = .returned (.tuple #[.slice p1 n1 c1, .int .i64 0]) ∧ IsP w' p1 n1 c1 (powP P k) ∧ w.grownBy w' none := by
  have hl := hP.len; have hc := hP.cap; have hmx := hP.max
  have hn3 : n ≤ 3 := by omega
  have hk4 : k ≤ 400 := by omega
  have HPK := hid (pow_pack nP bP eP hl hk)
  have HFI := hid (pow_final nP bP eP hl hk)
  have e1 : ((1 : Int) : Rat) = 1 := rfl
  have HO := hid fun W : World => rOf3_v (w := W) 1 (by omega) (by omega)
  have HCO := hid fun W (hg : w.grownBy W none) g p n c q m d (h : IsV W g p n c q m d ((1 : Int) : Rat)) (hn : n ≤ 20) (hm : m ≤ 20) => rConst6_v h hn hm
  have HPR := hid fun i (hi : i < k) W (hg : w.grownBy W none) po no co (h : IsP W po no co (powP P i)) => show Calls Tryz.prog 30 #[.slice po no co, .slice p n c] W (PPost W (powP P (i + 1))) from rMul62_v 2100 4 3300 h (hP.keep hg) (by omega) (by omega) (HPK.out i hi).2.1 bP (HPK.out i hi).2.2.1 (eP.mono (by omega)) (HPK.out i hi).1 nP ⟨by omega, by omega⟩ (by have := h.len; have := (HPK.out i hi).2.2.2.1; omega) (by omega) (by have := Nat.mul_le_mul_right (4 + 2100 + 1) hn3; omega)
  have HLA := hid fun i (hi : i < k) W (hg : w.grownBy W none) po no co (h : IsP W po no co (powP P (i + 1))) => rLarge6_v h ((HPK.out i hi).2.2.2.2.1.mono (by omega)) (by have := h.len; have := (HPK.out i hi).2.2.2.2.2; omega)
  skip
  rw [e1] at HO HCO
  unfold VPost at HO
  unfold PPost at HCO
  unfold PPost at HPR
  clear hP nP bP eP hk e1 HPK
  go_enter Tryz.func36, Tryz.ntmps36
  go_upto_region 4 with (first | (go_at_call 55; (with_reducible refine (HO.out _).mono ?_); rintro e w1 ⟨g1, p1, n1, c1, q1, m1, d1, rfl, hV1, hn1, hm1, hg1⟩; have HV1 := hid hV1; have HG1 := hid hg1; clear hV1 hg1) | (go_at_call 93; (with_reducible refine (HCO.out _ HG1.out _ _ _ _ _ _ _ HV1.out hn1 hm1).mono ?_); rintro e w2 ⟨p2, n2, c2, rfl, hP2, hg2⟩; have HP2 := hid hP2; have HG := hid (grown_trans HG1.out hg2); clear hP2 hg2 hn1 hm1 HV1 HG1))
  skip
  go_wp2_with fail
  go_loopw [6, 7] (fun x y wr => ∃ (i : Nat) (po : Option Addr) (no co : Nat), i ≤ k ∧ x = .slice po no co ∧ y = .int .i64 i ∧ Hid (w.grownBy wr none) ∧ Hid (IsP wr po no co (powP P i))) (fun _ y _ => k - (intOf y).toNat)
  case atStart => exact ⟨0, _, _, _, Nat.zero_le _, rfl, rfl, HG, HP2⟩
  case round =>
    clear HG HP2
    obtain ⟨i, po, no, co, hi, rfl, rfl, HG, HO⟩ := hrel
    have hoc := HO.out.cap; have hom := HO.out.max
    by_cases hlt : i < k
    · have HPRi := hid (HPR.out i hlt)
      have HLAi := hid (HLA.out i hlt)
      go_wp2_with (first | (go_at_call 30; (with_reducible refine (HPRi.out _ HG.out _ _ _ HO.out).mono ?_); rintro e w3 ⟨p3, n3, c3, rfl, hP3, hg3⟩; have HP3 := hid hP3; replace HG := hid (grown_trans HG.out hg3); clear hP3 hg3) | (go_at_call 94; (with_reducible refine (HLAi.out _ HG.out _ _ _ HP3.out).mono ?_); rintro e w4 ⟨rfl, hg4⟩; replace HG := hid (grown_trans HG.out hg4); replace HP3 := hid (HP3.out.keep hg4); clear hg4))
      exact ⟨⟨i + 1, p3, n3, c3, by omega, rfl, by go_num, HG, HP3⟩, by simp [intOf]; omega⟩
    · obtain rfl : i = k := by omega
      go_wp2_with fail
      exact bodyPost_ret (v := .tuple #[.slice po no co, .int .i64 0]) (by simp [results, Tryz.results36, go_sem]) rfl ⟨po, no, co, rfl, HO.out, HG.out⟩
end Go.Proofs.YtceoegmflbgckaaGreatDoor

set_option linter.unusedVariables false
set_option linter.unusedSimpArgs false
namespace Go.Proofs.YtceoegmflbgckaaGreatDoor
open Go Go.RowKit _root_.Nm
/-- the greatest value of f at a monomial, or d -/
def mxF (f : List Int → Int) (d : Int) (P : List Tm) : Int := P.foldl (fun a t => max a (f t.1)) d
theorem mxF_take (f : List Int → Int) (d : Int) {P : List Tm} {i : Nat} (hi : i < P.length) : mxF f d (P.take (i + 1)) = max (mxF f d (P.take i)) (f P[i].1) := by
  rw [← take_snoc P i hi]
  unfold mxF
  rw [List.foldl_append]
  rfl
set_option maxHeartbeats 8000000 in
set_option maxRecDepth 100000 in
theorem rDegree6_v {w : World} {p : Option Addr} {n c : Nat} {P : List Tm} (hP : IsP w p n c P) (eP : ExP 1048576 P) :
    Calls Tryz.prog 34 #[.slice p n c] w fun e w' => e = .returned (.int .i64 (mxF (fun xs => degZ xs) (-1) P)) ∧ w.grownBy w' none := by
  have hl := hP.len; have hc := hP.cap; have hmx := hP.max
  have HP := hid hP; have HE := hid eP; have HL := hid hl
  clear hP eP hl
  obtain ⟨f, hf⟩ : ∃ f : List Int → Int, f = fun xs => degZ xs := ⟨_, rfl⟩
  rw [← hf]
  have HF := hid hf
  clear hf
  go_enter Tryz.func34, Tryz.ntmps34
  go_wp2_with fail
  go_loopw [3, 4] (fun x y wr => ∃ (i : Nat), i ≤ n ∧ x = .int .i64 (mxF f (-1) (P.take i)) ∧ y = .int .i64 i ∧ Hid (w.grownBy wr none)) (fun _ y _ => n - (intOf y).toNat)
  case atStart => exact ⟨0, Nat.zero_le _, by first | rfl | simp [mxF], rfl, hid (grown_refl _ _)⟩
  case round =>
    obtain ⟨i, hi, rfl, rfl, HG⟩ := hrel
    by_cases hlt : i < n
    · have hil : i < P.length := by have := HL.out; omega
      obtain ⟨b, o, g1, p1, n1, c1, q1, m1, d1, a1, k1, e1, rfl, ⟨x0, x1, x2, x3⟩, hV, hX⟩ := ((HP.out.keep HG.out).tms i hil).out
      have HTK := hid (mxF_take f (-1) hil)
      have he := HE.out.at hil
      obtain ⟨t, ht⟩ : ∃ t, t = P[i] := ⟨_, rfl⟩
      rw [← ht] at HTK hX he
      obtain ⟨xs, v⟩ := t
      dsimp only at HTK hX he
      have HC := hid (rdegree_any a1 k1 e1 xs wr hX he ⟨by omega, by omega⟩)
      obtain ⟨z, hz⟩ : ∃ z, z = f xs := ⟨_, rfl⟩
      rw [← hz] at HTK
      rw [HF.out] at hz
      dsimp only at hz
      rw [← hz] at HC
      obtain ⟨a, ha⟩ : ∃ a, a = mxF f (-1) (P.take i) := ⟨_, rfl⟩
      rw [← ha] at HTK ⊢
      clear hV hX he ht hz ha
      rcases Int.le_total a z with haz | haz
      · have hmz : max a z = z := by omega
        go_wp2_with (go_at_call 90; (with_reducible refine HC.out.mono ?_); rintro e w2 ⟨rfl, rfl⟩)
        refine ⟨⟨i + 1, by omega, by rw [HTK.out, hmz], by go_num, HG⟩, by simp [intOf]; omega⟩
      · have hmz : max a z = a := by omega
        go_wp2_with (go_at_call 90; (with_reducible refine HC.out.mono ?_); rintro e w2 ⟨rfl, rfl⟩)
        refine ⟨⟨i + 1, by omega, by rw [HTK.out, hmz], by go_num, HG⟩, by simp [intOf]; omega⟩
    · obtain rfl : i = n := by omega
      go_wp2_with fail
      go_ret
      exact ⟨by rw [List.take_of_length_le (by have := HL.out; omega)]; rfl, HG.out⟩
end Go.Proofs.YtceoegmflbgckaaGreatDoor
