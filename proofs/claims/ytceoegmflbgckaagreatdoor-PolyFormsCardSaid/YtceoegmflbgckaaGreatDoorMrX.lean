/-
  PlX PlY, in one text.
-/
import Derived.Test.YtceoegmflbgckaaGreatDoorMrV
import Derived.Test.YtceoegmflbgckaaGreatDoorMrT
import Derived.Test.YtceoegmflbgckaaGreatDoorMrS
import Derived.Test.YtceoegmflbgckaaGreatDoorMrM
import Derived.Deep.RegionHeld3

set_option linter.unusedVariables false
set_option linter.unusedSimpArgs false
namespace Go.Proofs.YtceoegmflbgckaaGreatDoor
open Go Go.RowKit _root_.Nm
theorem addP_at : ∀ {P : List Tm} {j : Nat} {m : List Int} {c : Rat}, j ≤ P.length → (∀ i, i < j → 0 < lexL (tmI P i).1 m) → addP P (one m c) = P.take j ++ addP (P.drop j) (one m c)
  | P, 0, m, c, _, _ => by simp
  | [], j + 1, m, c, hj, _ => by simp at hj
  | s :: P, j + 1, m, c, hj, h => by
    have h0 : 0 < lexL s.1 m := h 0 (by omega)
    rw [addP_ahead h0, addP_at (P := P) (j := j) (by simpa using hj) (fun i hi => h (i + 1) (by omega))]
    simp
theorem lex_down {P : List Tm} (nP : NF P) {i j : Nat} (hij : i < j) (hj : j < P.length) : 0 < lexL (tmI P i).1 (tmI P j).1 := by
  rw [tmI_at hj, tmI_at (by omega)]
  exact List.pairwise_iff_getElem.1 nP.desc i j (by omega) hj hij
theorem add_here {P : List Tm} (nP : NF P) {m : List Int} {c : Rat} (hm : m.getLast? ≠ some 0) {j : Nat} (hj : j < P.length) (h0 : lexL (tmI P j).1 m = 0) :
    addP P (one m c) = P.take j ++ (if (tmI P j).2 + c = 0 then [] else [(m, (tmI P j).2 + c)]) ++ P.drop (j + 1) := by
  have he : (tmI P j).1 = m := lexL_zero (by rw [tmI_at hj]; exact nP.last _ (List.getElem_mem hj)) hm h0
  rw [addP_at (j := j) (by omega) (fun i hi => by rw [← he]; exact lex_down nP hi hj), List.append_assoc, drop_at hj, ← tmI_at hj]
  have hz : (tmI P j).2 ≠ 0 := by rw [tmI_at hj]; exact nP.nz _ (List.getElem_mem hj)
  generalize tmI P j = s at *
  congr 1
  rw [← he, addP_here hz]
  split <;> simp
theorem add_gap {P : List Tm} (nP : NF P) {m : List Int} {c : Rat} {j : Nat} (hj : j ≤ P.length) (h1 : ∀ i, i < j → 0 < lexL (tmI P i).1 m) (h2 : ∀ h : j < P.length, lexL (tmI P j).1 m < 0) :
    addP P (one m c) = P.take j ++ (if c = 0 then [] else [(m, c)]) ++ P.drop j := by
  rw [addP_at hj h1, List.append_assoc]
  congr 1
  by_cases hc : c = 0
  · rw [if_pos hc]; unfold one; rw [if_pos hc, addP_nil]; rfl
  · rw [if_neg hc]
    by_cases hlt : j < P.length
    · have := h2 hlt
      rw [drop_at hlt, ← tmI_at hlt, addP_below this hc]
      rfl
    · rw [List.drop_of_length_le (by omega)]
      unfold one
      rw [if_neg hc]
      simp [addP]
theorem IsP.take {w : World} {p : Option Addr} {n c : Nat} {P : List Tm} (h : IsP w p n c P) {k : Nat} (hk : k ≤ n) : IsP w p k c (P.take k) := by
  have hl := h.len
  refine ⟨by rw [List.length_take]; omega, Nat.le_trans hk h.cap, h.max, fun i hi => ?_⟩
  rw [List.length_take] at hi
  have := h.tms i (by omega)
  rw [List.getElem_take]
  exact this
theorem IsP.drop {w : World} {b o n c : Nat} {P : List Tm} (h : IsP w (some ⟨b, o, none⟩) n c P) {k : Nat} (hk : k ≤ n) : IsP w (some ⟨b, o + k * 4, none⟩) (n - k) (c - k) (P.drop k) := by
  have hl := h.len
  have hc := h.cap
  have hm := h.max
  refine ⟨by rw [List.length_drop]; omega, by omega, by omega, fun i hi => ?_⟩
  rw [List.length_drop] at hi
  obtain ⟨b', o', cs, e, h2, h3⟩ := h.tms (k + i) (by omega)
  cases e
  rw [List.getElem_drop]
  refine ⟨b, o + k * 4, cs, rfl, fun j hj => ?_, h3⟩
  have := h2 j hj
  rw [show o + k * 4 + i * 4 + j = o + (k + i) * 4 + j by rw [Nat.add_mul]; omega]
  exact this
theorem IsP.drop2 {w : World} {b o n c : Nat} {P : List Tm} (h : IsP w (some ⟨b, o, none⟩) n c P) {k : Nat} (hk : k ≤ n) : IsP w (if c = k then some ⟨b, o, none⟩ else some ⟨b, o + k * 4, none⟩) (n - k) (c - k) (P.drop k) := by
  by_cases hc : c = k
  · rw [if_pos hc]
    have h1 := h.len
    have h2 := h.cap
    refine ⟨by rw [List.length_drop]; omega, by omega, by omega, fun i hi => by rw [List.length_drop] at hi; omega⟩
  · rw [if_neg hc]
    exact h.drop hk
theorem IsP.relen {w : World} {p : Option Addr} {n m c : Nat} {P : List Tm} (h : IsP w p n c P) (e : n = m) : IsP w p m c P := e ▸ h
theorem IsQ.bd {w : World} {g : Bool} {p q : Option Addr} {n c m d H : Nat} {v : Rat} (h : IsQ w g p n c q m d v) (h0 : 0 < H) (h1 : n ≤ H) (h2 : m ≤ H) : Bd H v := by
  obtain ⟨N, D, hN, hD, rfl⟩ := h
  rcases Nat.eq_zero_or_pos D with e | e
  · rw [e, Rat.mkRat_zero]
    exact ⟨Nat.pow_pos (by omega), Nat.one_lt_pow (by omega) (by omega)⟩
  · exact Bd.mk e (Nat.lt_of_lt_of_le hN.1.lt (Nat.pow_le_pow_right (by omega) h1)) (Nat.lt_of_lt_of_le hD.lt (Nat.pow_le_pow_right (by omega) h2))
def Spot (p : Option Addr) : Prop := ∀ a, p = some a → ∃ b o, a = ⟨b, o, none⟩
theorem spotN : Spot none := fun a h => by cases h
theorem spotQ {w : World} {base : Nat} {e : TypeId} {k : Nat} {p : Option Addr} {n c : Nat} {l : List (List Value)} (h : QOwn w base e k p n c l) : Spot p := fun a ha => by
  rcases h.own with ⟨h1, _⟩ | ⟨g, cur, h1, _⟩
  · rw [h1] at ha; cases ha
  · rw [h1] at ha; cases ha; exact ⟨g, 0, rfl⟩
def PPostS (w : World) (P : List Tm) (e : Ending) (w' : World) : Prop := ∃ (p : Option Addr) (n c : Nat), e = .returned (.slice p n c) ∧ (IsP w' p n c P ∧ Spot p) ∧ w.grownBy w' none
theorem IsP.empty (w : World) (p : Option Addr) (c : Nat) (hc : c ≤ 9223372036854775807) : IsP w p 0 c [] := ⟨rfl, by omega, hc, fun i hi => absurd hi (Nat.not_lt_zero i)⟩
set_option maxHeartbeats 64000000 in
set_option maxRecDepth 100000 in
theorem rAddT_v (H : Nat) (B : Int) {w : World} {b o n c : Nat} {P : List Tm} (hP : IsP w (some ⟨b, o, none⟩) n c P) (bP : BdP H P) (eP : ExP B P) (nP : NF P) {g1 : Bool} {p1 q1 : Option Addr} {n1 c1 m1 d1 : Nat} {v : Rat} (hA : IsQ w g1 p1 n1 c1 q1 m1 d1 v) (hn1 : n1 ≤ 9000) (hm1 : m1 ≤ 9000) {a1 : Option Addr} {k1 e1 : Nat} {ms : List Int} (hM : ZRd w .i64 a1 k1 e1 ms) (eM : RightZ B ms) (hB : 0 ≤ B ∧ B ≤ 4294967296) (hH : H ≤ 9000) (hn : n ≤ 100000) :
    Calls Tryz.prog 71 #[.slice (some ⟨b, o, none⟩) n c, .agg #[.bool g1, .slice p1 n1 c1, .slice q1 m1 d1], .slice a1 k1 e1] w (PPostS w (addP P (one ms v))) := by
  have hl := hP.len; have hc := hP.cap; have hmx := hP.max
  have HCM : Hid (∀ W, w.grownBy W none → ∀ i (hi : i < P.length) a2 k2 e2, ZRd w .i64 a2 k2 e2 P[i].1 → Calls Tryz.prog 68 #[.slice a2 k2 e2, .slice a1 k1 e1, .int .i64 0] W fun e w' => e = .returned (.int .i64 (lexL (tmI P i).1 ms)) ∧ W = w') := hid fun W hg i hi a2 k2 e2 hZ => by
    have := rcmpM_any a2 a1 k2 k1 e2 e1 P[i].1 ms 0 W (hZ.keep hg) (hM.keep hg) (eP.at hi) eM hB hB
    have ho : ordZ 0 P[i].1 ms = lexL P[i].1 ms := by unfold ordZ; rw [if_neg (by intro h; have := h.1; omega)]
    rw [ho] at this
    rw [tmI_at hi]
    exact this
  have HSG := hid fun W (hg : w.grownBy W none) => rSign3_v 9000 (hA.keep hg) hn1 hm1 (by omega)
  have HNO := hid fun W (hg : w.grownBy W none) => norm_v 9000 (hA.keep hg) hn1 hm1 (by omega)
  have HAD := hid fun W (hg : w.grownBy W none) g2 p2 n2 c2 q2 m2 d2 u (hU : IsV W g2 p2 n2 c2 q2 m2 d2 u) (h1 : n2 ≤ H) (h2 : m2 ≤ H) => rAdd3_v 9000 hU.q (hA.keep hg) (by omega) (by omega) (by omega) (by omega) (by omega)
  obtain ⟨s, hs⟩ : ∃ s, s = cmpR v 0 := ⟨_, rfl⟩
  rw [← hs] at HSG
  have HSV : Hid (s = 0 ↔ v = 0) := hid (by rw [hs]; exact cmpR_zero)
  have HBV := hid (hA.bd (H := 9000) (by omega) hn1 hm1)
  have HP := hid hP; have HBD := hid (And.intro bP (And.intro eP nP)); have HM := hid (And.intro hM eM)
  clear hs
  have gA := World.grownBy_alloc w (.cells #[.bool g1, .slice p1 n1 c1, .slice q1 m1 d1] 29 (0, 0)) none
  have BT := hid (blk0 w (.cells #[.bool g1, .slice p1 n1 c1, .slice q1 m1 d1] 29 (0, 0)))
  unfold VPost at HNO HAD
  clear hP bP eP nP hA hM eM
  go_enter Tryz.func71, Tryz.ntmps71
  go_upto_region 2 with fail
  have hbt0 := lt_of_block BT.out
  obtain ⟨bt, hbt⟩ : ∃ x, x = w.heap.size := ⟨_, rfl⟩
  have hbtw : w.heap.size ≤ bt := by omega
  rw [← hbt] at BT hbt0 ⊢
  clear hbt
  have HW := hid gA
  clear gA
  generalize w.alloc _ = w0 at *
  go_loopw [7] (fun x wr => ∃ (k : Nat), k ≤ n ∧ x = .int .i64 k ∧ Hid (w.grownBy wr none) ∧ Hid (wr.heap[bt]? = some (.cells #[.bool g1, .slice p1 n1 c1, .slice q1 m1 d1] 29 (0, 0))) ∧ Hid (∀ i, k ≤ i → i < n → lexL (tmI P i).1 ms < 0)) (fun x _ => (intOf x).toNat)
  case atStart => exact ⟨n, Nat.le_refl _, rfl, HW, BT, hid fun i h1 h2 => by omega⟩
  case round =>
    clear HW BT
    obtain ⟨k, hk, rfl, HG, BT, HS⟩ := hrel
    rcases Nat.eq_zero_or_pos k with hk0 | hkp
    · subst hk0
      obtain ⟨k0, k1', k2'⟩ := box3p BT.out
      have HFIN := hid (add_gap HBD.out.2.2 (m := ms) (c := v) (j := 0) (by omega) (fun i h => by omega) (fun h => HS.out 0 (by omega) (by omega)))
      have hsw := HG.out.size
      have HQA := hid (QOwn.nil wr w.heap.size 33 4)
      have HRA := hid (RwS.nil wr none)
      rw [List.take_zero, List.nil_append, List.drop_zero] at HFIN
      by_cases hs0 : s = 0
      · subst hs0
        go_wp2_with (first | (go_at_call 66; (with_reducible refine (HSG.out _ HG.out).mono ?_); rintro e w5 ⟨rfl, hg⟩; replace HG := hid (grown_trans HG.out hg); replace BT := hid (keepB BT.out hg); replace HQA := hid (HQA.out.keep hg); replace HRA := hid (HRA.out.keep hg); have hswB := HG.out.size; have hcmA := HQA.out.cap; clear hg; obtain ⟨k0, k1', k2'⟩ := box3p BT.out; obtain ⟨rsB, hsB, hlB, htB⟩ := ((HP.out.take (k := n) (by omega)).keep HG.out).rows; have hnoB := rows_no hlB htB; have h1cB := rows_one hlB htB) | ((with_reducible refine wlq_append _ rfl (.tmp 83) (.tmp 86) 35 rfl 33 4 (.agg #[.bool false, .slice none 0 0, .slice none 0 0, .slice none 0 0]) 80 Tryz.underlying35 infoTm tmZs four_pos tmZn w.heap.size none (0) 0 [] rfl HQA.out _ (n) (c) rsB rfl hsB hnoB h1cB (by omega) (by omega) (by omega) ?_); intro pz cz wZ hqZ hgZ hatZ; have HRZ := hid (RwS.many HQA.out HRA.out hlB htB hgZ hatZ); have HQZ := hid hqZ; replace HG := hid (grown_new HG.out hgZ (fun g e => by cases hpm : none with | none => (rw [hpm] at e; simp at e) | some q => (rw [hpm] at e; simp at e; have := (HQA.out.lt q hpm).1; omega))); clear hqZ hgZ hatZ))
        all_goals
          go_ret
          refine ⟨_, _, _, rfl, ⟨?_, spotQ HQZ.out⟩, HG.out⟩
          have hI := IsP.ofQ HQZ.out HRZ.out
          rw [List.take_of_length_le (show P.length ≤ n by omega)] at hI
          have hF := HFIN.out
          rw [if_pos (HSV.out.1 (by first | rfl | trivial)), List.nil_append] at hF
          rw [hF]
          exact hI.relen (by omega)
      · have HV0 : Hid (v ≠ 0) := hid fun h => hs0 (HSV.out.2 h)
        have hsn : (s != 0) = true := by simpa using hs0
        go_wp2_with (first | (go_at_call 66; (with_reducible refine (HSG.out _ HG.out).mono ?_); rintro e w5 ⟨rfl, hg⟩; replace HG := hid (grown_trans HG.out hg); replace BT := hid (keepB BT.out hg); replace HQA := hid (HQA.out.keep hg); replace HRA := hid (HRA.out.keep hg); have hswB := HG.out.size; have hcmA := HQA.out.cap; clear hg; obtain ⟨k0, k1', k2'⟩ := box3p BT.out; obtain ⟨rsB, hsB, hlB, htB⟩ := ((HP.out.take (k := n) (by omega)).keep HG.out).rows; have hnoB := rows_no hlB htB; have h1cB := rows_one hlB htB) | (go_at_call 125; (with_reducible refine (HNO.out _ HG.out).mono ?_); rintro e _ ⟨g3, p3, n3, c3, q3, m3, d3, rfl, hV3, hn3, hm3, hg⟩; replace HG := hid (grown_trans HG.out hg); replace HQA := hid (HQA.out.keep hg); replace HRA := hid (HRA.out.keep hg); have hswC := HG.out.size; have HT3 := hid (show TmC _ [.bool g3, .slice p3 n3 c3, .slice q3 m3 d3, .slice a1 k1 e1] (ms, v) from ⟨_, _, _, _, _, _, _, _, _, _, rfl, hV3, HM.out.1.keep HG.out⟩); clear hg hV3 k0 k1' k2') | ((with_reducible refine wlq_append _ rfl (.tmp 76) (.tmp 81) 35 rfl 33 4 (.agg #[.bool false, .slice none 0 0, .slice none 0 0, .slice none 0 0]) 80 Tryz.underlying35 infoTm tmZs four_pos tmZn w.heap.size none (0) 0 [] rfl (QOwn.keep HQA.out (World.grownBy_alloc _ _ _)) _ 1 _ [[.bool g3, .slice p3 n3 c3, .slice q3 m3 d3, .slice a1 k1 e1]] rfl (one_srd _ _ 4 _ rfl _ (by simp)) (lone (noInt4 _ _ _ _ _ _ _ _ _ _)) (lone (one4 _ _ _ _ _ _ _ _ _ _)) (by omega) (by omega) (by simp; omega) ?_); intro pb cb wB hqB hgB hatB; have HRB := hid (RwS.snoc (QOwn.keep HQA.out (World.grownBy_alloc _ _ _)) (RwS.keep HRA.out (World.grownBy_alloc _ _ _)) (TmC.keep HT3.out (World.grownBy_alloc _ _ _)) hgB hatB); have HQB := hid hqB; replace HG := hid (grown_new (grown_trans HG.out (World.grownBy_alloc _ _ _)) hgB (fun g e => by cases hpm : none with | none => (rw [hpm] at e; simp at e) | some q => (rw [hpm] at e; simp at e; have := (HQA.out.lt q hpm).1; omega))); have hswD := HG.out.size; have hcmB := HQB.out.cap; clear hqB hgB hatB; obtain ⟨rsB, hsB, hlB, htB⟩ := ((HP.out.take (k := n) (by omega)).keep HG.out).rows; have hnoB := rows_no hlB htB; have h1cB := rows_one hlB htB) | ((with_reducible refine wlq_append _ rfl (.tmp 83) (.tmp 86) 35 rfl 33 4 (.agg #[.bool false, .slice none 0 0, .slice none 0 0, .slice none 0 0]) 80 Tryz.underlying35 infoTm tmZs four_pos tmZn w.heap.size pb (1) cb _ rfl HQB.out _ (n) (c) rsB rfl hsB hnoB h1cB (by omega) (by omega) (by omega) ?_); intro pz cz wZ hqZ hgZ hatZ; have HRZ := hid (RwS.many HQB.out HRB.out hlB htB hgZ hatZ); have HQZ := hid hqZ; replace HG := hid (grown_new HG.out hgZ (fun g e => by cases hpm : pb with | none => (rw [hpm] at e; simp at e) | some q => (rw [hpm] at e; simp at e; have := (HQB.out.lt q hpm).1; omega))); clear hqZ hgZ hatZ))
        all_goals
          go_ret
          refine ⟨_, _, _, rfl, ⟨?_, spotQ HQZ.out⟩, HG.out⟩
          have hI := IsP.ofQ HQZ.out HRZ.out
          rw [List.take_of_length_le (show P.length ≤ n by omega)] at hI
          have hF := HFIN.out
          rw [if_neg HV0.out] at hF
          rw [hF]
          exact hI.relen (by omega)
    · obtain ⟨j, rfl⟩ : ∃ j, k = j + 1 := ⟨k - 1, by omega⟩
      have hjl : j < P.length := by omega
      have hjn : j < n := by omega
      have hwj : IntKind.i64.wrap (j : Int) = (j : Int) := wrapI64 (by omega) (by omega)
      obtain ⟨b', o', g2, p2, n2, c2, q2, m2, d2, a2, k2, e2, hbo, ⟨x0, x1, x2, x3⟩, hU, hX⟩ := (HP.out.tms j hjl).out
      cases hbo
      have HBW := hid (World.block_lt_of_cell? w _ x0)
      have HCJ := hid fun W (hg : w.grownBy W none) => HCM.out W hg j hjl a2 k2 e2 hX
      replace x0 := HG.out.cell x0 (by simp); replace x1 := HG.out.cell x1 (by simp); replace x2 := HG.out.cell x2 (by simp); replace x3 := HG.out.cell x3 (by simp)
      obtain ⟨z, hz⟩ : ∃ z, z = lexL (tmI P j).1 ms := ⟨_, rfl⟩
      rw [← hz] at HCJ
      have HZ := hid hz
      have hwk : IntKind.i64.wrap ((j : Int) + 1) = (j : Int) + 1 := wrapI64 (by omega) (by omega)
      clear hz
      rcases Int.lt_trichotomy z 0 with hz0 | hz0 | hz0
      · go_wp2_with (go_at_call 68; (with_reducible refine (HCJ.out _ HG.out).mono ?_); rintro e _ ⟨rfl, rfl⟩)
        refine ⟨⟨j, by omega, by go_num, HG, BT, hid fun i h1 h2 => ?_⟩, by simp [intOf]⟩
        by_cases e : i = j
        · subst e; rw [← HZ.out]; exact hz0
        · exact HS.out i (by omega) h2
      · subst hz0
        have HFIN := hid (add_here HBD.out.2.2 (c := v) HM.out.2.last hjl HZ.out.symm)
        obtain ⟨t, ht⟩ : ∃ t, t = P[j] := ⟨_, rfl⟩
        rw [tmI_at hjl, ← ht] at HFIN
        have hu := hU.lens (HBD.out.1.at hjl)
        have hbu := HBD.out.1.at hjl
        rw [← ht] at hU hbu
        obtain ⟨us, u⟩ := t
        dsimp only at hU hbu HFIN
        have HAJ := hid fun W (hg : w.grownBy W none) => HAD.out W hg g2 p2 n2 c2 q2 m2 d2 u (hU.keep hg) hu.1 hu.2
        obtain ⟨su, hsu⟩ : ∃ s, s = u + v := ⟨_, rfl⟩
        rw [← hsu] at HAJ
        obtain ⟨KB, hKB⟩ : ∃ K, K = 18001 := ⟨_, rfl⟩
        have hbsu : Bd KB su := by rw [hsu]; exact ((hbu.mono (show H ≤ 9000 by omega)).add HBV.out).mono (by omega)
        obtain ⟨sz, hsz⟩ : ∃ s, s = cmpR su 0 := ⟨_, rfl⟩
        have HSQ := hid fun W g p n c q m d (h : IsV W g p n c q m d su) => rSign3_v 40000 h.q (by have := (h.lens hbsu).1; omega) (by have := (h.lens hbsu).2; omega) (by omega)
        rw [← hsz] at HSQ
        have HSU := hid (And.intro hsu hsz)
        clear hsu hsz hKB hbsu hbu hU ht
        replace HAJ := hid fun W hg => HAJ.out W (grown_trans HG.out hg)
        obtain ⟨rsA, hsA, hlA, htA⟩ := ((HP.out.take (k := j) (by omega)).keep HG.out).rows
        have hnoA := rows_no hlA htA; have h1cA := rows_one hlA htA
        have hsw := HG.out.size
        have hbw : b < w.heap.size := HBW.out
        obtain ⟨k0, k1', k2'⟩ := box3p BT.out
        go_upto_region 7 with (first | (go_at_call 68; (with_reducible refine (HCJ.out _ HG.out).mono ?_); rintro e _ ⟨rfl, rfl⟩) | ((with_reducible refine wlq_append _ rfl (.tmp 40) (.tmp 44) 35 rfl 33 4 (.agg #[.bool false, .slice none 0 0, .slice none 0 0, .slice none 0 0]) 80 Tryz.underlying35 infoTm tmZs four_pos tmZn w.heap.size none 0 0 [] rfl (QOwn.nil _ _ _ _) (some ⟨b, o, none⟩) (j) c rsA rfl hsA hnoA h1cA (by omega) (by omega) (by omega) ?_); intro pa ca wA hqA hgA hatA; have HRA := hid (show RwS wA pa rsA (P.take (j)) from RwS.many (QOwn.nil wr w.heap.size 33 4) (RwS.nil wr none) hlA htA hgA hatA); have HQA := hid (show QOwn wA w.heap.size 33 4 pa (j) ca rsA by simpa using hqA); replace HG := hid (grown_new HG.out hgA (fun g e => by simp at e)); replace BT := hid (keepB BT.out hgA); have hswA := HG.out.size; replace x0 := hgA.cell x0 (by simp); replace x1 := hgA.cell x1 (by simp); replace x2 := hgA.cell x2 (by simp); replace HAJ := hid (fun W hg => HAJ.out W (grown_trans hgA hg)); clear hqA hgA hatA; obtain ⟨k0, k1', k2'⟩ := box3p BT.out))
        refine wp_region_noPanic ?_
        refine wp_region_held_drew (S := (fun W => W.heap[bt]? = some (.cells #[.bool g1, .slice p1 n1 c1, .slice q1 m1 d1] 29 (0, 0)) ∧ W.cell? ⟨b, o + j * 4, none⟩ = some (.bool g2) ∧ W.cell? ⟨b, o + j * 4 + 1, none⟩ = some (.slice p2 n2 c2) ∧ W.cell? ⟨b, o + j * 4 + 2, none⟩ = some (.slice q2 m2 d2))) (by kernel_rfl) ?_ (fun hHeld => ?_)
        · (try dsimp only)
          exact ⟨keepB BT.out (grown_drew _ none), (grown_drew _ none).cell x0 (by simp), (grown_drew _ none).cell x1 (by simp), (grown_drew _ none).cell x2 (by simp)⟩
        have hgg := grown_drew wA none
        have hbA : b < wA.heap.size := by omega
        have hbtA : bt < wA.heap.size := lt_of_block BT.out
        generalize wA.drew = wd2 at *
        refine wpAnyH_take (i := 0) (oi := Oper.mk _ _ _ _ _ _) (v := ?_) rfl (by kernel_rfl) (by kernel_rfl) (by kernel_rfl) (fun _ _ _ h => h) (Or.inl ⟨by kernel_rfl, ?_⟩) hHeld ?_
        rotate_left 1
        · intro W hSw
          (try dsimp only at hSw)
          obtain ⟨hb, h0, h1, h2⟩ := hSw
          obtain ⟨j0, j1, j2⟩ := box3p hb
          go_simp
          (try (with_reducible rfl))
        (try simp only [Act.put, List.setIfInBounds_toArray, List.set_cons_zero, List.set_cons_succ])
        refine wpAnyH_take (i := 1) (oi := Oper.mk _ _ _ _ _ _) (v := ?_) rfl (by kernel_rfl) (by kernel_rfl) (by kernel_rfl) (fun _ _ _ h => h) (Or.inl ⟨by kernel_rfl, ?_⟩) hHeld ?_
        rotate_left 1
        · intro W hSw
          (try dsimp only at hSw)
          obtain ⟨hb, h0, h1, h2⟩ := hSw
          obtain ⟨j0, j1, j2⟩ := box3p hb
          go_simp
          (try (with_reducible rfl))
        (try simp only [Act.put, List.setIfInBounds_toArray, List.set_cons_zero, List.set_cons_succ])
        refine wpAnyH_take (i := 2) (oi := Oper.mk _ _ _ _ _ _) (v := ?_) rfl (by kernel_rfl) (by kernel_rfl) (by kernel_rfl) (fun _ _ _ h => h) (Or.inl ⟨by kernel_rfl, ?_⟩) hHeld ?_
        rotate_left 1
        · intro W hSw
          (try dsimp only at hSw)
          obtain ⟨hb, h0, h1, h2⟩ := hSw
          obtain ⟨j0, j1, j2⟩ := box3p hb
          go_simp
          (try (with_reducible rfl))
        (try simp only [Act.put, List.setIfInBounds_toArray, List.set_cons_zero, List.set_cons_succ])
        refine wpAnyH_take (i := 3) (oi := Oper.mk _ _ _ _ _ _) (v := ?_) rfl (by kernel_rfl) (by kernel_rfl) (by kernel_rfl) (fun _ _ _ h => h) (Or.inl ⟨by kernel_rfl, ?_⟩) hHeld ?_
        rotate_left 1
        · intro W hSw
          (try dsimp only at hSw)
          obtain ⟨hb, h0, h1, h2⟩ := hSw
          obtain ⟨j0, j1, j2⟩ := box3p hb
          go_simp
          (try (with_reducible rfl))
        (try simp only [Act.put, List.setIfInBounds_toArray, List.set_cons_zero, List.set_cons_succ])
        refine wpAnyH_take (i := 4) (oi := Oper.mk _ _ _ _ _ _) (v := ?_) rfl (by kernel_rfl) (by kernel_rfl) (by kernel_rfl) (fun _ _ _ h => h) (Or.inl ⟨by kernel_rfl, ?_⟩) hHeld ?_
        rotate_left 1
        · intro W hSw
          (try dsimp only at hSw)
          obtain ⟨hb, h0, h1, h2⟩ := hSw
          obtain ⟨j0, j1, j2⟩ := box3p hb
          go_simp
          (try (with_reducible rfl))
        (try simp only [Act.put, List.setIfInBounds_toArray, List.set_cons_zero, List.set_cons_succ])
        refine wpAnyH_take (i := 5) (oi := Oper.mk _ _ _ _ _ _) (v := ?_) rfl (by kernel_rfl) (by kernel_rfl) (by kernel_rfl) (fun _ _ _ h => h) (Or.inl ⟨by kernel_rfl, ?_⟩) hHeld ?_
        rotate_left 1
        · intro W hSw
          (try dsimp only at hSw)
          obtain ⟨hb, h0, h1, h2⟩ := hSw
          obtain ⟨j0, j1, j2⟩ := box3p hb
          go_simp
          (try (with_reducible rfl))
        (try simp only [Act.put, List.setIfInBounds_toArray, List.set_cons_zero, List.set_cons_succ])
        refine wpAnyH_take (i := 6) (oi := Oper.mk _ _ _ _ _ _) (v := ?_) rfl (by kernel_rfl) (by kernel_rfl) (by kernel_rfl) (fun _ _ _ h => h) (Or.inl ⟨by kernel_rfl, ?_⟩) hHeld ?_
        rotate_left 1
        · intro W hSw
          (try dsimp only at hSw)
          obtain ⟨hb, h0, h1, h2⟩ := hSw
          obtain ⟨j0, j1, j2⟩ := box3p hb
          go_simp
          (try (with_reducible rfl))
        (try simp only [Act.put, List.setIfInBounds_toArray, List.set_cons_zero, List.set_cons_succ])
        refine wpAnyH_ready (rs := [7, 8]) (by kernel_rfl) (by simp) ?_
        refine AllReadyH.cons (o := Oper.mk _ _ _ _ _ _) rfl (fun K hK => ?_) ?_
        · (try rw [if_pos (by kernel_rfl)])
          go_simp
          go_at_call 85
          refine (HAJ.out _ hgg).mono ?_
          rintro e wy11 ⟨g3, p3, n3, c3, q3, m3, d3, rfl, hV3, hn3, hm3, hgS⟩
          replace hgg := grown_trans hgg hgS
          refine hK.out _ _ ?_ (fun hNew => ?_)
          · have hH := hHeld
            (try dsimp only at hH)
            (try dsimp only)
            first | with_reducible exact hH | exact ⟨keepB hH.1 hgS, hgS.cell hH.2.1 (by simp), hgS.cell hH.2.2.1 (by simp), hgS.cell hH.2.2.2 (by simp)⟩
          clear hK K hHeld
          have hHeld := hNew
          clear hNew
          (try simp only [Act.put, List.setIfInBounds_toArray, List.set_cons_zero, List.set_cons_succ])
          clear hgS
          refine wpAnyH_ready (rs := [8]) (by kernel_rfl) (by simp) ?_
          refine AllReadyH.cons (o := Oper.mk _ _ _ _ _ _) rfl (fun K hK => ?_) AllReadyH.nil
          (try rw [if_pos (by kernel_rfl)])
          go_simp
          have hgS := World.grownBy_alloc wy11 (.cells #[.bool false, .slice none 0 0, .slice none 0 0] 29 (0, 0)) none
          have hb9 := blk0 wy11 (.cells #[.bool false, .slice none 0 0, .slice none 0 0] 29 (0, 0))
          have hleb9 := hgg.size
          replace hgg := grown_trans hgg hgS
          replace hV3 := hV3.keep hgS
          refine hK.out _ _ ?_ (fun hNew => ?_)
          · have hH := hHeld
            (try dsimp only at hH)
            (try dsimp only)
            first | with_reducible exact hH | exact ⟨keepB hH.1 hgS, hgS.cell hH.2.1 (by simp), hgS.cell hH.2.2.1 (by simp), hgS.cell hH.2.2.2 (by simp)⟩
          clear hK K hHeld
          have hHeld := hNew
          clear hNew
          (try simp only [Act.put, List.setIfInBounds_toArray, List.set_cons_zero, List.set_cons_succ])
          generalize wy11.heap.size = b9 at *
          generalize wy11.alloc _ = wy12 at *
          clear hgS
          refine wpAnyH_ready (rs := [9]) (by kernel_rfl) (by simp) ?_
          refine AllReadyH.cons (o := Oper.mk _ _ _ _ _ _) rfl (fun K hK => ?_) AllReadyH.nil
          (try rw [if_pos (by kernel_rfl)])
          obtain ⟨z0, z1, z2⟩ := box3p hb9
          have zf := fun o => frozen_of_row wy12 b9 o _ _ hb9
          have f0 := zf 0
          have f1 := zf 1
          have f2 := zf 2
          have hb9lt := lt_of_block hb9
          go_simp
          have hgS := set3_grown wy12 b9 (.bool g3) (.slice p3 n3 c3) (.slice q3 m3 d3)
          have hbE := set3_block hb9 g3 p3 n3 c3 q3 m3 d3
          have HV3 := hid (hV3.other3 hb9 hgS)
          have hggE := hid (grown_new hgg hgS (fun g' e => by cases e; exact hleb9))
          clear z0 z1 z2 zf f0 f1 f2
          refine hK.out _ _ ?_ (fun hNew => ?_)
          · have hH := hHeld
            (try dsimp only at hH)
            (try dsimp only)
            exact ⟨(hgS.block bt (lt_of_block hH.1) (by simp; omega)).trans hH.1, hgS.cell hH.2.1 (by simp; omega), hgS.cell hH.2.2.1 (by simp; omega), hgS.cell hH.2.2.2 (by simp; omega)⟩
          clear hK K hHeld
          have hHeld := hNew
          clear hNew
          (try simp only [Act.put, List.setIfInBounds_toArray, List.set_cons_zero, List.set_cons_succ])
          generalize ((wy12.setCell _ _).setCell _ _).setCell _ _ = wE at *
          have HBE := hid hbE
          clear hgS hb9 hV3 hbE hgg
          refine wpAnyH_done (by kernel_rfl) ?_ _
          refine NoPanic.normal ?_
          obtain ⟨-, -, -, -⟩ := hHeld
          have hszE := hggE.out.size
          replace HQA := hid (HQA.out.keep hggE.out)
          replace HRA := hid (HRA.out.keep hggE.out)
          replace HG := hid (grown_trans HG.out hggE.out)
          have HSG2 := hid (HSQ.out _ g3 p3 n3 c3 q3 m3 d3 HV3.out)
          obtain ⟨j0, j1, j2⟩ := box3p HBE.out
          clear x0 x1 x2 x3 k0 k1' k2'
          by_cases hsz : sz = 0
          · have HSU0 : Hid (u + v = 0) := hid (by rw [← HSU.out.1]; exact cmpR_zero.1 (by rw [← HSU.out.2]; exact hsz))
            subst hsz
            go_wp2_with (first | (go_at_call 66; (with_reducible refine HSG2.out.mono ?_); rintro e _ ⟨rfl, hg⟩; replace HG := hid (grown_trans HG.out hg); replace HQA := hid (HQA.out.keep hg); replace HRA := hid (HRA.out.keep hg); replace HBE := hid (keepB HBE.out hg); replace HV3 := hid (HV3.out.keep hg); have hswB := HG.out.size; have hcmA := HQA.out.cap; have HT3 := hid (show TmC _ [.bool g3, .slice p3 n3 c3, .slice q3 m3 d3, .slice a1 k1 e1] (ms, su) from ⟨_, _, _, _, _, _, _, _, _, _, rfl, HV3.out, HM.out.1.keep HG.out⟩); clear hg; obtain ⟨j0, j1, j2⟩ := box3p HBE.out; obtain ⟨rsB, hsB, hlB, htB⟩ := ((HP.out.drop2 (k := j + 1) (by omega)).keep HG.out).rows; have hnoB := rows_no hlB htB; have h1cB := rows_one hlB htB) | ((with_reducible refine wlq_append _ rfl (.tmp 63) (.tmp 66) 35 rfl 33 4 (.agg #[.bool false, .slice none 0 0, .slice none 0 0, .slice none 0 0]) 80 Tryz.underlying35 infoTm tmZs four_pos tmZn w.heap.size pa (j) ca rsA rfl HQA.out _ (n - (j + 1)) (c - (j + 1)) rsB rfl hsB hnoB h1cB (by omega) (by omega) (by omega) ?_); intro pz cz wZ hqZ hgZ hatZ; have HRZ := hid (RwS.many HQA.out HRA.out hlB htB hgZ hatZ); have HQZ := hid hqZ; replace HG := hid (grown_new HG.out hgZ (fun g e => by cases hpm : pa with | none => (rw [hpm] at e; simp at e) | some q => (rw [hpm] at e; simp at e; have := (HQA.out.lt q hpm).1; omega))); clear hqZ hgZ hatZ))
            all_goals
              go_ret
              refine ⟨_, _, _, rfl, ⟨?_, spotQ HQZ.out⟩, HG.out⟩
              have hI := IsP.ofQ HQZ.out HRZ.out
              have hF := HFIN.out
              rw [if_pos HSU0.out, List.append_nil] at hF
              rw [hF]
              exact hI.relen (by omega)
          · have HSU0 : Hid (¬ u + v = 0) := hid (by rw [← HSU.out.1]; intro h; exact hsz (by rw [HSU.out.2, h, cmpR_eq]))
            have hszn : (sz != 0) = true := by simpa using hsz
            go_wp2_with (first | (go_at_call 66; (with_reducible refine HSG2.out.mono ?_); rintro e _ ⟨rfl, hg⟩; replace HG := hid (grown_trans HG.out hg); replace HQA := hid (HQA.out.keep hg); replace HRA := hid (HRA.out.keep hg); replace HBE := hid (keepB HBE.out hg); replace HV3 := hid (HV3.out.keep hg); have hswB := HG.out.size; have hcmA := HQA.out.cap; have HT3 := hid (show TmC _ [.bool g3, .slice p3 n3 c3, .slice q3 m3 d3, .slice a1 k1 e1] (ms, su) from ⟨_, _, _, _, _, _, _, _, _, _, rfl, HV3.out, HM.out.1.keep HG.out⟩); clear hg; obtain ⟨j0, j1, j2⟩ := box3p HBE.out; obtain ⟨rsB, hsB, hlB, htB⟩ := ((HP.out.drop2 (k := j + 1) (by omega)).keep HG.out).rows; have hnoB := rows_no hlB htB; have h1cB := rows_one hlB htB) | ((with_reducible refine wlq_append _ rfl (.tmp 57) (.tmp 61) 35 rfl 33 4 (.agg #[.bool false, .slice none 0 0, .slice none 0 0, .slice none 0 0]) 80 Tryz.underlying35 infoTm tmZs four_pos tmZn w.heap.size pa (j) ca rsA rfl (QOwn.keep HQA.out (World.grownBy_alloc _ _ _)) _ 1 _ [[.bool g3, .slice p3 n3 c3, .slice q3 m3 d3, .slice a1 k1 e1]] rfl (one_srd _ _ 4 _ rfl _ (by simp)) (lone (noInt4 _ _ _ _ _ _ _ _ _ _)) (lone (one4 _ _ _ _ _ _ _ _ _ _)) (by omega) (by omega) (by simp; omega) ?_); intro pb cb wB hqB hgB hatB; have HRB := hid (RwS.snoc (QOwn.keep HQA.out (World.grownBy_alloc _ _ _)) (RwS.keep HRA.out (World.grownBy_alloc _ _ _)) (TmC.keep HT3.out (World.grownBy_alloc _ _ _)) hgB hatB); have HQB := hid hqB; replace HG := hid (grown_new (grown_trans HG.out (World.grownBy_alloc _ _ _)) hgB (fun g e => by cases hpm : pa with | none => (rw [hpm] at e; simp at e) | some q => (rw [hpm] at e; simp at e; have := (HQA.out.lt q hpm).1; omega))); have hswD := HG.out.size; have hcmB := HQB.out.cap; clear hqB hgB hatB; obtain ⟨rsB, hsB, hlB, htB⟩ := ((HP.out.drop2 (k := j + 1) (by omega)).keep HG.out).rows; have hnoB := rows_no hlB htB; have h1cB := rows_one hlB htB) | ((with_reducible refine wlq_append _ rfl (.tmp 63) (.tmp 66) 35 rfl 33 4 (.agg #[.bool false, .slice none 0 0, .slice none 0 0, .slice none 0 0]) 80 Tryz.underlying35 infoTm tmZs four_pos tmZn w.heap.size pb (j + 1) cb _ rfl HQB.out _ (n - (j + 1)) (c - (j + 1)) rsB rfl hsB hnoB h1cB (by omega) (by omega) (by omega) ?_); intro pz cz wZ hqZ hgZ hatZ; have HRZ := hid (RwS.many HQB.out HRB.out hlB htB hgZ hatZ); have HQZ := hid hqZ; replace HG := hid (grown_new HG.out hgZ (fun g e => by cases hpm : pb with | none => (rw [hpm] at e; simp at e) | some q => (rw [hpm] at e; simp at e; have := (HQB.out.lt q hpm).1; omega))); clear hqZ hgZ hatZ))
            all_goals
              go_ret
              refine ⟨_, _, _, rfl, ⟨?_, spotQ HQZ.out⟩, HG.out⟩
              have hI := IsP.ofQ HQZ.out HRZ.out
              have hF := HFIN.out
              rw [if_neg HSU0.out, ← HSU.out.1] at hF
              rw [hF]
              exact hI.relen (by omega)
        refine AllReadyH.cons (o := Oper.mk _ _ _ _ _ _) rfl (fun K hK => ?_) AllReadyH.nil
        (try rw [if_pos (by kernel_rfl)])
        go_simp
        have hgS := World.grownBy_alloc wd2 (.cells #[.bool false, .slice none 0 0, .slice none 0 0] 29 (0, 0)) none
        have hb9 := blk0 wd2 (.cells #[.bool false, .slice none 0 0, .slice none 0 0] 29 (0, 0))
        have hleb9 := hgg.size
        replace hgg := grown_trans hgg hgS
        refine hK.out _ _ ?_ (fun hNew => ?_)
        · have hH := hHeld
          (try dsimp only at hH)
          (try dsimp only)
          first | with_reducible exact hH | exact ⟨keepB hH.1 hgS, hgS.cell hH.2.1 (by simp), hgS.cell hH.2.2.1 (by simp), hgS.cell hH.2.2.2 (by simp)⟩
        clear hK K hHeld
        have hHeld := hNew
        clear hNew
        (try simp only [Act.put, List.setIfInBounds_toArray, List.set_cons_zero, List.set_cons_succ])
        generalize wd2.heap.size = b9 at *
        generalize wd2.alloc _ = wy11 at *
        clear hgS
        refine wpAnyH_ready (rs := [7]) (by kernel_rfl) (by simp) ?_
        refine AllReadyH.cons (o := Oper.mk _ _ _ _ _ _) rfl (fun K hK => ?_) AllReadyH.nil
        (try rw [if_pos (by kernel_rfl)])
        go_simp
        go_at_call 85
        refine (HAJ.out _ hgg).mono ?_
        rintro e wy12 ⟨g3, p3, n3, c3, q3, m3, d3, rfl, hV3, hn3, hm3, hgS⟩
        replace hgg := grown_trans hgg hgS
        replace hb9 := keepB hb9 hgS
        refine hK.out _ _ ?_ (fun hNew => ?_)
        · have hH := hHeld
          (try dsimp only at hH)
          (try dsimp only)
          first | with_reducible exact hH | exact ⟨keepB hH.1 hgS, hgS.cell hH.2.1 (by simp), hgS.cell hH.2.2.1 (by simp), hgS.cell hH.2.2.2 (by simp)⟩
        clear hK K hHeld
        have hHeld := hNew
        clear hNew
        (try simp only [Act.put, List.setIfInBounds_toArray, List.set_cons_zero, List.set_cons_succ])
        clear hgS
        refine wpAnyH_ready (rs := [9]) (by kernel_rfl) (by simp) ?_
        refine AllReadyH.cons (o := Oper.mk _ _ _ _ _ _) rfl (fun K hK => ?_) AllReadyH.nil
        (try rw [if_pos (by kernel_rfl)])
        obtain ⟨z0, z1, z2⟩ := box3p hb9
        have zf := fun o => frozen_of_row wy12 b9 o _ _ hb9
        have f0 := zf 0
        have f1 := zf 1
        have f2 := zf 2
        have hb9lt := lt_of_block hb9
        go_simp
        have hgS := set3_grown wy12 b9 (.bool g3) (.slice p3 n3 c3) (.slice q3 m3 d3)
        have hbE := set3_block hb9 g3 p3 n3 c3 q3 m3 d3
        have HV3 := hid (hV3.other3 hb9 hgS)
        have hggE := hid (grown_new hgg hgS (fun g' e => by cases e; exact hleb9))
        clear z0 z1 z2 zf f0 f1 f2
        refine hK.out _ _ ?_ (fun hNew => ?_)
        · have hH := hHeld
          (try dsimp only at hH)
          (try dsimp only)
          exact ⟨(hgS.block bt (lt_of_block hH.1) (by simp; omega)).trans hH.1, hgS.cell hH.2.1 (by simp; omega), hgS.cell hH.2.2.1 (by simp; omega), hgS.cell hH.2.2.2 (by simp; omega)⟩
        clear hK K hHeld
        have hHeld := hNew
        clear hNew
        (try simp only [Act.put, List.setIfInBounds_toArray, List.set_cons_zero, List.set_cons_succ])
        generalize ((wy12.setCell _ _).setCell _ _).setCell _ _ = wE at *
        have HBE := hid hbE
        clear hgS hb9 hV3 hbE hgg
        refine wpAnyH_done (by kernel_rfl) ?_ _
        refine NoPanic.normal ?_
        obtain ⟨-, -, -, -⟩ := hHeld
        have hszE := hggE.out.size
        replace HQA := hid (HQA.out.keep hggE.out)
        replace HRA := hid (HRA.out.keep hggE.out)
        replace HG := hid (grown_trans HG.out hggE.out)
        have HSG2 := hid (HSQ.out _ g3 p3 n3 c3 q3 m3 d3 HV3.out)
        obtain ⟨j0, j1, j2⟩ := box3p HBE.out
        clear x0 x1 x2 x3 k0 k1' k2'
        by_cases hsz : sz = 0
        · have HSU0 : Hid (u + v = 0) := hid (by rw [← HSU.out.1]; exact cmpR_zero.1 (by rw [← HSU.out.2]; exact hsz))
          subst hsz
          go_wp2_with (first | (go_at_call 66; (with_reducible refine HSG2.out.mono ?_); rintro e _ ⟨rfl, hg⟩; replace HG := hid (grown_trans HG.out hg); replace HQA := hid (HQA.out.keep hg); replace HRA := hid (HRA.out.keep hg); replace HBE := hid (keepB HBE.out hg); replace HV3 := hid (HV3.out.keep hg); have hswB := HG.out.size; have hcmA := HQA.out.cap; have HT3 := hid (show TmC _ [.bool g3, .slice p3 n3 c3, .slice q3 m3 d3, .slice a1 k1 e1] (ms, su) from ⟨_, _, _, _, _, _, _, _, _, _, rfl, HV3.out, HM.out.1.keep HG.out⟩); clear hg; obtain ⟨j0, j1, j2⟩ := box3p HBE.out; obtain ⟨rsB, hsB, hlB, htB⟩ := ((HP.out.drop2 (k := j + 1) (by omega)).keep HG.out).rows; have hnoB := rows_no hlB htB; have h1cB := rows_one hlB htB) | ((with_reducible refine wlq_append _ rfl (.tmp 63) (.tmp 66) 35 rfl 33 4 (.agg #[.bool false, .slice none 0 0, .slice none 0 0, .slice none 0 0]) 80 Tryz.underlying35 infoTm tmZs four_pos tmZn w.heap.size pa (j) ca rsA rfl HQA.out _ (n - (j + 1)) (c - (j + 1)) rsB rfl hsB hnoB h1cB (by omega) (by omega) (by omega) ?_); intro pz cz wZ hqZ hgZ hatZ; have HRZ := hid (RwS.many HQA.out HRA.out hlB htB hgZ hatZ); have HQZ := hid hqZ; replace HG := hid (grown_new HG.out hgZ (fun g e => by cases hpm : pa with | none => (rw [hpm] at e; simp at e) | some q => (rw [hpm] at e; simp at e; have := (HQA.out.lt q hpm).1; omega))); clear hqZ hgZ hatZ))
          all_goals
            go_ret
            refine ⟨_, _, _, rfl, ⟨?_, spotQ HQZ.out⟩, HG.out⟩
            have hI := IsP.ofQ HQZ.out HRZ.out
            have hF := HFIN.out
            rw [if_pos HSU0.out, List.append_nil] at hF
            rw [hF]
            exact hI.relen (by omega)
        · have HSU0 : Hid (¬ u + v = 0) := hid (by rw [← HSU.out.1]; intro h; exact hsz (by rw [HSU.out.2, h, cmpR_eq]))
          have hszn : (sz != 0) = true := by simpa using hsz
          go_wp2_with (first | (go_at_call 66; (with_reducible refine HSG2.out.mono ?_); rintro e _ ⟨rfl, hg⟩; replace HG := hid (grown_trans HG.out hg); replace HQA := hid (HQA.out.keep hg); replace HRA := hid (HRA.out.keep hg); replace HBE := hid (keepB HBE.out hg); replace HV3 := hid (HV3.out.keep hg); have hswB := HG.out.size; have hcmA := HQA.out.cap; have HT3 := hid (show TmC _ [.bool g3, .slice p3 n3 c3, .slice q3 m3 d3, .slice a1 k1 e1] (ms, su) from ⟨_, _, _, _, _, _, _, _, _, _, rfl, HV3.out, HM.out.1.keep HG.out⟩); clear hg; obtain ⟨j0, j1, j2⟩ := box3p HBE.out; obtain ⟨rsB, hsB, hlB, htB⟩ := ((HP.out.drop2 (k := j + 1) (by omega)).keep HG.out).rows; have hnoB := rows_no hlB htB; have h1cB := rows_one hlB htB) | ((with_reducible refine wlq_append _ rfl (.tmp 57) (.tmp 61) 35 rfl 33 4 (.agg #[.bool false, .slice none 0 0, .slice none 0 0, .slice none 0 0]) 80 Tryz.underlying35 infoTm tmZs four_pos tmZn w.heap.size pa (j) ca rsA rfl (QOwn.keep HQA.out (World.grownBy_alloc _ _ _)) _ 1 _ [[.bool g3, .slice p3 n3 c3, .slice q3 m3 d3, .slice a1 k1 e1]] rfl (one_srd _ _ 4 _ rfl _ (by simp)) (lone (noInt4 _ _ _ _ _ _ _ _ _ _)) (lone (one4 _ _ _ _ _ _ _ _ _ _)) (by omega) (by omega) (by simp; omega) ?_); intro pb cb wB hqB hgB hatB; have HRB := hid (RwS.snoc (QOwn.keep HQA.out (World.grownBy_alloc _ _ _)) (RwS.keep HRA.out (World.grownBy_alloc _ _ _)) (TmC.keep HT3.out (World.grownBy_alloc _ _ _)) hgB hatB); have HQB := hid hqB; replace HG := hid (grown_new (grown_trans HG.out (World.grownBy_alloc _ _ _)) hgB (fun g e => by cases hpm : pa with | none => (rw [hpm] at e; simp at e) | some q => (rw [hpm] at e; simp at e; have := (HQA.out.lt q hpm).1; omega))); have hswD := HG.out.size; have hcmB := HQB.out.cap; clear hqB hgB hatB; obtain ⟨rsB, hsB, hlB, htB⟩ := ((HP.out.drop2 (k := j + 1) (by omega)).keep HG.out).rows; have hnoB := rows_no hlB htB; have h1cB := rows_one hlB htB) | ((with_reducible refine wlq_append _ rfl (.tmp 63) (.tmp 66) 35 rfl 33 4 (.agg #[.bool false, .slice none 0 0, .slice none 0 0, .slice none 0 0]) 80 Tryz.underlying35 infoTm tmZs four_pos tmZn w.heap.size pb (j + 1) cb _ rfl HQB.out _ (n - (j + 1)) (c - (j + 1)) rsB rfl hsB hnoB h1cB (by omega) (by omega) (by omega) ?_); intro pz cz wZ hqZ hgZ hatZ; have HRZ := hid (RwS.many HQB.out HRB.out hlB htB hgZ hatZ); have HQZ := hid hqZ; replace HG := hid (grown_new HG.out hgZ (fun g e => by cases hpm : pb with | none => (rw [hpm] at e; simp at e) | some q => (rw [hpm] at e; simp at e; have := (HQB.out.lt q hpm).1; omega))); clear hqZ hgZ hatZ))
          all_goals
            go_ret
            refine ⟨_, _, _, rfl, ⟨?_, spotQ HQZ.out⟩, HG.out⟩
            have hI := IsP.ofQ HQZ.out HRZ.out
            have hF := HFIN.out
            rw [if_neg HSU0.out, ← HSU.out.1] at hF
            rw [hF]
            exact hI.relen (by omega)
      · have hz1 : ¬ z < 0 := by omega
        have hz2 : ¬ z = 0 := by omega
        have HFIN := hid (add_gap HBD.out.2.2 (m := ms) (c := v) (j := j + 1) (by omega) (fun i h => by
          have hzz := HZ.out
          by_cases e : i = j
          · subst e; omega
          · exact lexL_tr (lex_down HBD.out.2.2 (show i < j by omega) hjl) (by omega)) (fun h => HS.out (j + 1) (by omega) (by omega)))
        go_upto_region 11 with (go_at_call 68; (with_reducible refine (HCJ.out _ HG.out).mono ?_); rintro e _ ⟨rfl, rfl⟩)
        obtain ⟨rsA, hsA, hlA, htA⟩ := ((HP.out.take (k := j + 1) (by omega)).keep HG.out).rows
        have hnoA := rows_no hlA htA; have h1cA := rows_one hlA htA
        have hsw := HG.out.size
        clear x0 x1 x2 x3
        by_cases hs0 : s = 0
        · subst hs0
          go_wp2_with (first | ((with_reducible refine wlq_append _ rfl (.tmp 68) (.tmp 71) 35 rfl 33 4 (.agg #[.bool false, .slice none 0 0, .slice none 0 0, .slice none 0 0]) 80 Tryz.underlying35 infoTm tmZs four_pos tmZn w.heap.size none 0 0 [] rfl (QOwn.nil _ _ _ _) (some ⟨b, o, none⟩) (j + 1) c rsA rfl hsA hnoA h1cA (by omega) (by omega) (by omega) ?_); intro pa ca wA hqA hgA hatA; have HRA := hid (show RwS wA pa rsA (P.take (j + 1)) from RwS.many (QOwn.nil wr w.heap.size 33 4) (RwS.nil wr none) hlA htA hgA hatA); have HQA := hid (show QOwn wA w.heap.size 33 4 pa (j + 1) ca rsA by simpa using hqA); replace HG := hid (grown_new HG.out hgA (fun g e => by simp at e)); replace BT := hid (keepB BT.out hgA); have hswA := HG.out.size; clear hqA hgA hatA; obtain ⟨k0, k1', k2'⟩ := box3p BT.out) | (go_at_call 66; (with_reducible refine (HSG.out _ HG.out).mono ?_); rintro e w5 ⟨rfl, hg⟩; replace HG := hid (grown_trans HG.out hg); replace BT := hid (keepB BT.out hg); replace HQA := hid (HQA.out.keep hg); replace HRA := hid (HRA.out.keep hg); have hswB := HG.out.size; have hcmA := HQA.out.cap; clear hg; obtain ⟨k0, k1', k2'⟩ := box3p BT.out; obtain ⟨rsB, hsB, hlB, htB⟩ := ((HP.out.drop2 (k := j + 1) (by omega)).keep HG.out).rows; have hnoB := rows_no hlB htB; have h1cB := rows_one hlB htB) | ((with_reducible refine wlq_append _ rfl (.tmp 83) (.tmp 86) 35 rfl 33 4 (.agg #[.bool false, .slice none 0 0, .slice none 0 0, .slice none 0 0]) 80 Tryz.underlying35 infoTm tmZs four_pos tmZn w.heap.size pa (j + 1) ca rsA rfl HQA.out _ (n - (j + 1)) (c - (j + 1)) rsB rfl hsB hnoB h1cB (by omega) (by omega) (by omega) ?_); intro pz cz wZ hqZ hgZ hatZ; have HRZ := hid (RwS.many HQA.out HRA.out hlB htB hgZ hatZ); have HQZ := hid hqZ; replace HG := hid (grown_new HG.out hgZ (fun g e => by cases hpm : pa with | none => (rw [hpm] at e; simp at e) | some q => (rw [hpm] at e; simp at e; have := (HQA.out.lt q hpm).1; omega))); clear hqZ hgZ hatZ))
          all_goals
            go_ret
            refine ⟨_, _, _, rfl, ⟨?_, spotQ HQZ.out⟩, HG.out⟩
            have hI := IsP.ofQ HQZ.out HRZ.out
            have hF := HFIN.out
            rw [if_pos (HSV.out.1 (by first | rfl | trivial)), List.append_nil] at hF
            rw [hF]
            exact hI.relen (by omega)
        · have HV0 : Hid (v ≠ 0) := hid fun h => hs0 (HSV.out.2 h)
          have hsn : (s != 0) = true := by simpa using hs0
          go_wp2_with (first | ((with_reducible refine wlq_append _ rfl (.tmp 68) (.tmp 71) 35 rfl 33 4 (.agg #[.bool false, .slice none 0 0, .slice none 0 0, .slice none 0 0]) 80 Tryz.underlying35 infoTm tmZs four_pos tmZn w.heap.size none 0 0 [] rfl (QOwn.nil _ _ _ _) (some ⟨b, o, none⟩) (j + 1) c rsA rfl hsA hnoA h1cA (by omega) (by omega) (by omega) ?_); intro pa ca wA hqA hgA hatA; have HRA := hid (show RwS wA pa rsA (P.take (j + 1)) from RwS.many (QOwn.nil wr w.heap.size 33 4) (RwS.nil wr none) hlA htA hgA hatA); have HQA := hid (show QOwn wA w.heap.size 33 4 pa (j + 1) ca rsA by simpa using hqA); replace HG := hid (grown_new HG.out hgA (fun g e => by simp at e)); replace BT := hid (keepB BT.out hgA); have hswA := HG.out.size; clear hqA hgA hatA; obtain ⟨k0, k1', k2'⟩ := box3p BT.out) | (go_at_call 66; (with_reducible refine (HSG.out _ HG.out).mono ?_); rintro e w5 ⟨rfl, hg⟩; replace HG := hid (grown_trans HG.out hg); replace BT := hid (keepB BT.out hg); replace HQA := hid (HQA.out.keep hg); replace HRA := hid (HRA.out.keep hg); have hswB := HG.out.size; have hcmA := HQA.out.cap; clear hg; obtain ⟨k0, k1', k2'⟩ := box3p BT.out; obtain ⟨rsB, hsB, hlB, htB⟩ := ((HP.out.drop2 (k := j + 1) (by omega)).keep HG.out).rows; have hnoB := rows_no hlB htB; have h1cB := rows_one hlB htB) | (go_at_call 125; (with_reducible refine (HNO.out _ HG.out).mono ?_); rintro e _ ⟨g3, p3, n3, c3, q3, m3, d3, rfl, hV3, hn3, hm3, hg⟩; replace HG := hid (grown_trans HG.out hg); replace HQA := hid (HQA.out.keep hg); replace HRA := hid (HRA.out.keep hg); have hswC := HG.out.size; have HT3 := hid (show TmC _ [.bool g3, .slice p3 n3 c3, .slice q3 m3 d3, .slice a1 k1 e1] (ms, v) from ⟨_, _, _, _, _, _, _, _, _, _, rfl, hV3, HM.out.1.keep HG.out⟩); clear hg hV3 k0 k1' k2') | ((with_reducible refine wlq_append _ rfl (.tmp 76) (.tmp 81) 35 rfl 33 4 (.agg #[.bool false, .slice none 0 0, .slice none 0 0, .slice none 0 0]) 80 Tryz.underlying35 infoTm tmZs four_pos tmZn w.heap.size pa (j + 1) ca rsA rfl (QOwn.keep HQA.out (World.grownBy_alloc _ _ _)) _ 1 _ [[.bool g3, .slice p3 n3 c3, .slice q3 m3 d3, .slice a1 k1 e1]] rfl (one_srd _ _ 4 _ rfl _ (by simp)) (lone (noInt4 _ _ _ _ _ _ _ _ _ _)) (lone (one4 _ _ _ _ _ _ _ _ _ _)) (by omega) (by omega) (by simp; omega) ?_); intro pb cb wB hqB hgB hatB; have HRB := hid (RwS.snoc (QOwn.keep HQA.out (World.grownBy_alloc _ _ _)) (RwS.keep HRA.out (World.grownBy_alloc _ _ _)) (TmC.keep HT3.out (World.grownBy_alloc _ _ _)) hgB hatB); have HQB := hid hqB; replace HG := hid (grown_new (grown_trans HG.out (World.grownBy_alloc _ _ _)) hgB (fun g e => by cases hpm : pa with | none => (rw [hpm] at e; simp at e) | some q => (rw [hpm] at e; simp at e; have := (HQA.out.lt q hpm).1; omega))); have hswD := HG.out.size; have hcmB := HQB.out.cap; clear hqB hgB hatB; obtain ⟨rsB, hsB, hlB, htB⟩ := ((HP.out.drop2 (k := j + 1) (by omega)).keep HG.out).rows; have hnoB := rows_no hlB htB; have h1cB := rows_one hlB htB) | ((with_reducible refine wlq_append _ rfl (.tmp 83) (.tmp 86) 35 rfl 33 4 (.agg #[.bool false, .slice none 0 0, .slice none 0 0, .slice none 0 0]) 80 Tryz.underlying35 infoTm tmZs four_pos tmZn w.heap.size pb (j + 1 + 1) cb _ rfl HQB.out _ (n - (j + 1)) (c - (j + 1)) rsB rfl hsB hnoB h1cB (by omega) (by omega) (by omega) ?_); intro pz cz wZ hqZ hgZ hatZ; have HRZ := hid (RwS.many HQB.out HRB.out hlB htB hgZ hatZ); have HQZ := hid hqZ; replace HG := hid (grown_new HG.out hgZ (fun g e => by cases hpm : pb with | none => (rw [hpm] at e; simp at e) | some q => (rw [hpm] at e; simp at e; have := (HQB.out.lt q hpm).1; omega))); clear hqZ hgZ hatZ))
          all_goals
            go_ret
            refine ⟨_, _, _, rfl, ⟨?_, spotQ HQZ.out⟩, HG.out⟩
            have hI := IsP.ofQ HQZ.out HRZ.out
            have hF := HFIN.out
            rw [if_neg HV0.out] at hF
            rw [hF]
            exact hI.relen (by omega)
set_option maxHeartbeats 64000000 in
set_option maxRecDepth 100000 in
theorem rAddN_v {w : World} (c : Nat) (hc : c ≤ 9223372036854775807) {g1 : Bool} {p1 q1 : Option Addr} {n1 c1 m1 d1 : Nat} {v : Rat} (hA : IsQ w g1 p1 n1 c1 q1 m1 d1 v) (hn1 : n1 ≤ 9000) (hm1 : m1 ≤ 9000) {a1 : Option Addr} {k1 e1 : Nat} {ms : List Int} (hM : ZRd w .i64 a1 k1 e1 ms) :
    Calls Tryz.prog 71 #[.slice none 0 c, .agg #[.bool g1, .slice p1 n1 c1, .slice q1 m1 d1], .slice a1 k1 e1] w (PPostS w (one ms v)) := by
  have HSG := hid fun W (hg : w.grownBy W none) => rSign3_v 9000 (hA.keep hg) hn1 hm1 (by omega)
  have HNO := hid fun W (hg : w.grownBy W none) => norm_v 9000 (hA.keep hg) hn1 hm1 (by omega)
  obtain ⟨s, hs⟩ : ∃ s, s = cmpR v 0 := ⟨_, rfl⟩
  rw [← hs] at HSG
  have HSV : Hid (s = 0 ↔ v = 0) := hid (by rw [hs]; exact cmpR_zero)
  have HP := hid (IsP.empty w none c hc); have HM := hid (And.intro hM trivial)
  have gA := World.grownBy_alloc w (.cells #[.bool g1, .slice p1 n1 c1, .slice q1 m1 d1] 29 (0, 0)) none
  have BT := hid (blk0 w (.cells #[.bool g1, .slice p1 n1 c1, .slice q1 m1 d1] 29 (0, 0)))
  have HFIN : Hid (one ms v = if v = 0 then [] else [(ms, v)]) := hid rfl
  unfold VPost at HNO
  clear hA hM hs
  go_enter Tryz.func71, Tryz.ntmps71
  go_upto_region 2 with fail
  have hbt0 := lt_of_block BT.out
  obtain ⟨bt, hbt⟩ : ∃ x, x = w.heap.size := ⟨_, rfl⟩
  rw [← hbt] at BT hbt0 ⊢
  clear hbt
  have HW := hid gA
  clear gA
  generalize w.alloc _ = w0 at *
  go_loopw [7] (fun x wr => x = .int .i64 0 ∧ Hid (w.grownBy wr none) ∧ Hid (wr.heap[bt]? = some (.cells #[.bool g1, .slice p1 n1 c1, .slice q1 m1 d1] 29 (0, 0)))) (fun _ _ => 0)
  case atStart => exact ⟨rfl, HW, BT⟩
  case round =>
    clear HW BT
    obtain ⟨rfl, HG, BT⟩ := hrel
    obtain ⟨k0, k1', k2'⟩ := box3p BT.out
    have hsw := HG.out.size
    have HQA := hid (QOwn.nil wr w.heap.size 33 4)
    have HRA := hid (RwS.nil wr none)
    by_cases hs0 : s = 0
    · subst hs0
      go_wp2_with (first | (go_at_call 66; (with_reducible refine (HSG.out _ HG.out).mono ?_); rintro e w5 ⟨rfl, hg⟩; replace HG := hid (grown_trans HG.out hg); replace BT := hid (keepB BT.out hg); replace HQA := hid (HQA.out.keep hg); replace HRA := hid (HRA.out.keep hg); have hswB := HG.out.size; have hcmA := HQA.out.cap; clear hg; obtain ⟨k0, k1', k2'⟩ := box3p BT.out; obtain ⟨rsB, hsB, hlB, htB⟩ := ((HP.out).keep HG.out).rows; have hnoB := rows_no hlB htB; have h1cB := rows_one hlB htB) | ((with_reducible refine wlq_append _ rfl (.tmp 83) (.tmp 86) 35 rfl 33 4 (.agg #[.bool false, .slice none 0 0, .slice none 0 0, .slice none 0 0]) 80 Tryz.underlying35 infoTm tmZs four_pos tmZn w.heap.size none (0) 0 [] rfl HQA.out _ 0 c rsB rfl hsB hnoB h1cB (by omega) (by omega) (by omega) ?_); intro pz cz wZ hqZ hgZ hatZ; have HRZ := hid (RwS.many HQA.out HRA.out hlB htB hgZ hatZ); have HQZ := hid hqZ; replace HG := hid (grown_new HG.out hgZ (fun g e => by cases hpm : none with | none => (rw [hpm] at e; simp at e) | some q => (rw [hpm] at e; simp at e; have := (HQA.out.lt q hpm).1; omega))); clear hqZ hgZ hatZ))
      all_goals
        go_ret
        refine ⟨_, _, _, rfl, ⟨?_, by first | exact spotQ HQZ.out | exact spotQ HQB.out | exact spotN⟩, HG.out⟩
        have hF := HFIN.out
        rw [if_pos (HSV.out.1 (by first | rfl | trivial))] at hF
        rw [hF]
        first | exact IsP.empty _ _ _ (by omega) | exact (IsP.ofQ HQZ.out HRZ.out).relen (by omega)
    · have HV0 : Hid (v ≠ 0) := hid fun h => hs0 (HSV.out.2 h)
      have hsn : (s != 0) = true := by simpa using hs0
      go_wp2_with (first | (go_at_call 66; (with_reducible refine (HSG.out _ HG.out).mono ?_); rintro e w5 ⟨rfl, hg⟩; replace HG := hid (grown_trans HG.out hg); replace BT := hid (keepB BT.out hg); replace HQA := hid (HQA.out.keep hg); replace HRA := hid (HRA.out.keep hg); have hswB := HG.out.size; have hcmA := HQA.out.cap; clear hg; obtain ⟨k0, k1', k2'⟩ := box3p BT.out; obtain ⟨rsB, hsB, hlB, htB⟩ := ((HP.out).keep HG.out).rows; have hnoB := rows_no hlB htB; have h1cB := rows_one hlB htB) | (go_at_call 125; (with_reducible refine (HNO.out _ HG.out).mono ?_); rintro e _ ⟨g3, p3, n3, c3, q3, m3, d3, rfl, hV3, hn3, hm3, hg⟩; replace HG := hid (grown_trans HG.out hg); replace HQA := hid (HQA.out.keep hg); replace HRA := hid (HRA.out.keep hg); have hswC := HG.out.size; have HT3 := hid (show TmC _ [.bool g3, .slice p3 n3 c3, .slice q3 m3 d3, .slice a1 k1 e1] (ms, v) from ⟨_, _, _, _, _, _, _, _, _, _, rfl, hV3, HM.out.1.keep HG.out⟩); clear hg hV3 k0 k1' k2') | ((with_reducible refine wlq_append _ rfl (.tmp 76) (.tmp 81) 35 rfl 33 4 (.agg #[.bool false, .slice none 0 0, .slice none 0 0, .slice none 0 0]) 80 Tryz.underlying35 infoTm tmZs four_pos tmZn w.heap.size none (0) 0 [] rfl (QOwn.keep HQA.out (World.grownBy_alloc _ _ _)) _ 1 _ [[.bool g3, .slice p3 n3 c3, .slice q3 m3 d3, .slice a1 k1 e1]] rfl (one_srd _ _ 4 _ rfl _ (by simp)) (lone (noInt4 _ _ _ _ _ _ _ _ _ _)) (lone (one4 _ _ _ _ _ _ _ _ _ _)) (by omega) (by omega) (by simp; omega) ?_); intro pb cb wB hqB hgB hatB; have HRB := hid (RwS.snoc (QOwn.keep HQA.out (World.grownBy_alloc _ _ _)) (RwS.keep HRA.out (World.grownBy_alloc _ _ _)) (TmC.keep HT3.out (World.grownBy_alloc _ _ _)) hgB hatB); have HQB := hid hqB; replace HG := hid (grown_new (grown_trans HG.out (World.grownBy_alloc _ _ _)) hgB (fun g e => by cases hpm : none with | none => (rw [hpm] at e; simp at e) | some q => (rw [hpm] at e; simp at e; have := (HQA.out.lt q hpm).1; omega))); have hswD := HG.out.size; have hcmB := HQB.out.cap; clear hqB hgB hatB; obtain ⟨rsB, hsB, hlB, htB⟩ := ((HP.out).keep HG.out).rows; have hnoB := rows_no hlB htB; have h1cB := rows_one hlB htB) | ((with_reducible refine wlq_append _ rfl (.tmp 83) (.tmp 86) 35 rfl 33 4 (.agg #[.bool false, .slice none 0 0, .slice none 0 0, .slice none 0 0]) 80 Tryz.underlying35 infoTm tmZs four_pos tmZn w.heap.size pb (1) cb _ rfl HQB.out _ 0 c rsB rfl hsB hnoB h1cB (by omega) (by omega) (by omega) ?_); intro pz cz wZ hqZ hgZ hatZ; have HRZ := hid (RwS.many HQB.out HRB.out hlB htB hgZ hatZ); have HQZ := hid hqZ; replace HG := hid (grown_new HG.out hgZ (fun g e => by cases hpm : pb with | none => (rw [hpm] at e; simp at e) | some q => (rw [hpm] at e; simp at e; have := (HQB.out.lt q hpm).1; omega))); clear hqZ hgZ hatZ))
      all_goals
        go_ret
        refine ⟨_, _, _, rfl, ⟨?_, by first | exact spotQ HQZ.out | exact spotQ HQB.out | exact spotN⟩, HG.out⟩
        have hF := HFIN.out
        rw [if_neg HV0.out] at hF
        rw [hF]
        first | exact (IsP.ofQ HQB.out HRB.out).relen (by omega) | exact (IsP.ofQ HQZ.out HRZ.out).relen (by omega)
theorem addP_nil_one (m : List Int) (c : Rat) : addP [] (one m c) = one m c := addP_end (.inl rfl)
/-- one term more, for a polynomial that may be nil -/
theorem rAdd1_v (H : Nat) (B : Int) {w : World} {p : Option Addr} {n c : Nat} {P : List Tm} (hP : IsP w p n c P) (bP : BdP H P) (eP : ExP B P) (nP : NF P) {g1 : Bool} {p1 q1 : Option Addr} {n1 c1 m1 d1 : Nat} {v : Rat} (hA : IsQ w g1 p1 n1 c1 q1 m1 d1 v) (hn1 : n1 ≤ 9000) (hm1 : m1 ≤ 9000) {a1 : Option Addr} {k1 e1 : Nat} {ms : List Int} (hM : ZRd w .i64 a1 k1 e1 ms) (eM : RightZ B ms) (hB : 0 ≤ B ∧ B ≤ 4294967296) (hH : H ≤ 9000) (hn : n ≤ 100000) (hsp : Spot p) :
    Calls Tryz.prog 71 #[.slice p n c, .agg #[.bool g1, .slice p1 n1 c1, .slice q1 m1 d1], .slice a1 k1 e1] w (PPostS w (addP P (one ms v))) := by
  cases p with
  | none =>
    have h0 : n = 0 := by
      rcases Nat.eq_zero_or_pos n with h | h
      · exact h
      · obtain ⟨b, o, cs, e, _⟩ := hP.tms 0 (by have := hP.len; omega)
        cases e
    subst h0
    have : P = [] := List.eq_nil_of_length_eq_zero hP.len
    subst this
    rw [addP_nil_one]
    exact rAddN_v c hP.max hA hn1 hm1 hM
  | some a =>
    obtain ⟨b, o, rfl⟩ := hsp a rfl
    exact rAddT_v H B hP bP eP nP hA hn1 hm1 hM eM hB hH hn
end Go.Proofs.YtceoegmflbgckaaGreatDoor

set_option linter.unusedVariables false
set_option linter.unusedSimpArgs false
namespace Go.Proofs.YtceoegmflbgckaaGreatDoor
open Go Go.RowKit _root_.Nm
set_option maxHeartbeats 8000000 in
set_option maxRecDepth 100000 in
theorem zeros_v {a b : Option Addr} {n c m d : Nat} {xs ys : List Int} {w : World} (h : ZRd w .i64 a n c xs) (k : ZRd w .i64 b m d ys) :
    Calls Tryz.prog 70 #[.slice a n c, .slice b m d] w fun e w' => e = .returned (.bool (decide (∀ i (hi : i < xs.length), xs[i] = ex ys i))) ∧ w.grownBy w' none := by
  have HL := hid h.len
  have hcap := h.cap; have hmax := h.max
  have HX := hid h
  have HEXP := hid fun W (hg : w.grownBy W none) (i : Nat) => rexp_nat b m d ys W (k.keep hg) i
  clear h k
  go_enter Tryz.func70, Tryz.ntmps70
  go_wp2_with fail
  go_loopw [5] (fun x wr => ∃ (i : Nat), i ≤ n ∧ x = .int .i64 i ∧ Hid (w.grownBy wr none) ∧ Hid (∀ j (hj : j < xs.length), j < i → xs[j] = ex ys j)) (fun x _ => n - (intOf x).toNat)
  case atStart => exact ⟨0, Nat.zero_le _, rfl, hid (grown_refl _ _), hid fun j _ h => absurd h (Nat.not_lt_zero j)⟩
  case round =>
    obtain ⟨i, hi, rfl, HG, HS⟩ := hrel
    by_cases hlt : i < n
    · have hil : i < xs.length := by have := HL.out; omega
      obtain ⟨b', o, rfl, hci⟩ := (HX.out.keep HG.out).cel i hil
      have HEX := hid fun W (hg : wr.grownBy W none) => HEXP.out W (grown_trans HG.out hg) i
      obtain ⟨x, hx⟩ : ∃ x, x = xs[i] := ⟨_, rfl⟩
      rw [← hx] at hci
      obtain ⟨y, hy⟩ : ∃ y, y = ex ys i := ⟨_, rfl⟩
      rw [← hy] at HEX
      have HXX := hid hx; have HYY := hid hy
      clear hx hy
      by_cases hxy : x = y
      · have hxn : (x != y) = false := by simpa using hxy
        have HXY := hid hxy
        clear hxy
        go_upto_region 4 with fail
        refine wp_region_noPanic ?_
        refine wp_region_held_drew (S := (fun W => W.cell? ⟨b', o + i, none⟩ = some (.int .i64 x))) (by kernel_rfl) ?_ (fun hHeld => ?_)
        · (try dsimp only)
          exact (grown_drew _ none).cell hci (by simp)
        have hgg := grown_drew wr none
        generalize wr.drew = wd at *
        refine wpAnyH_take (i := 0) (oi := Oper.mk _ _ _ _ _ _) (v := ?_) rfl (by kernel_rfl) (by kernel_rfl) (by kernel_rfl) (fun _ _ _ h => h) (Or.inl ⟨by kernel_rfl, ?_⟩) hHeld ?_
        rotate_left 1
        · intro W hSw
          (try dsimp only at hSw)
          have h0 := hSw
          go_simp
          (try (with_reducible rfl))
        (try simp only [Act.put, List.setIfInBounds_toArray, List.set_cons_zero, List.set_cons_succ])
        refine wpAnyH_take (i := 1) (oi := Oper.mk _ _ _ _ _ _) (v := ?_) rfl (by kernel_rfl) (by kernel_rfl) (by kernel_rfl) (fun _ _ _ h => h) (Or.inl ⟨by kernel_rfl, ?_⟩) hHeld ?_
        rotate_left 1
        · intro W hSw
          (try dsimp only at hSw)
          have h0 := hSw
          go_simp
          (try (with_reducible rfl))
        (try simp only [Act.put, List.setIfInBounds_toArray, List.set_cons_zero, List.set_cons_succ])
        refine wpAnyH_take (i := 2) (oi := Oper.mk _ _ _ _ _ _) (v := ?_) rfl (by kernel_rfl) (by kernel_rfl) (by kernel_rfl) (fun _ _ _ h => h) (Or.inl ⟨by kernel_rfl, ?_⟩) hHeld ?_
        rotate_left 1
        · intro W hSw
          (try dsimp only at hSw)
          have h0 := hSw
          go_simp
          (try (with_reducible rfl))
        (try simp only [Act.put, List.setIfInBounds_toArray, List.set_cons_zero, List.set_cons_succ])
        refine wpAnyH_take (i := 3) (oi := Oper.mk _ _ _ _ _ _) (v := ?_) rfl (by kernel_rfl) (by kernel_rfl) (by kernel_rfl) (fun _ _ _ h => h) (Or.inl ⟨by kernel_rfl, ?_⟩) hHeld ?_
        rotate_left 1
        · intro W hSw
          (try dsimp only at hSw)
          have h0 := hSw
          go_simp
          (try (with_reducible rfl))
        (try simp only [Act.put, List.setIfInBounds_toArray, List.set_cons_zero, List.set_cons_succ])
        refine wpAnyH_take (i := 4) (oi := Oper.mk _ _ _ _ _ _) (v := ?_) rfl (by kernel_rfl) (by kernel_rfl) (by kernel_rfl) (fun _ _ _ h => h) (Or.inl ⟨by kernel_rfl, ?_⟩) hHeld ?_
        rotate_left 1
        · intro W hSw
          (try dsimp only at hSw)
          have h0 := hSw
          go_simp
          (try (with_reducible rfl))
        (try simp only [Act.put, List.setIfInBounds_toArray, List.set_cons_zero, List.set_cons_succ])
        refine wpAnyH_take (i := 5) (oi := Oper.mk _ _ _ _ _ _) (v := ?_) rfl (by kernel_rfl) (by kernel_rfl) (by kernel_rfl) (fun _ _ _ h => h) (Or.inl ⟨by kernel_rfl, ?_⟩) hHeld ?_
        rotate_left 1
        · intro W hSw
          (try dsimp only at hSw)
          have h0 := hSw
          go_simp
          (try (with_reducible rfl))
        (try simp only [Act.put, List.setIfInBounds_toArray, List.set_cons_zero, List.set_cons_succ])
        refine wpAnyH_ready (rs := [6]) (by kernel_rfl) (by simp) ?_
        refine AllReadyH.cons (o := Oper.mk _ _ _ _ _ _) rfl (fun K hK => ?_) AllReadyH.nil
        (try rw [if_pos (by kernel_rfl)])
        go_simp
        go_at_call 97
        refine (HEX.out _ hgg).mono ?_
        rintro e _ ⟨rfl, rfl⟩
        refine hK.out _ _ ?_ (fun hNew => ?_)
        · have hH := hHeld
          (try dsimp only at hH)
          (try dsimp only)
          with_reducible exact hH
        clear hK K hHeld
        have hHeld := hNew
        clear hNew
        (try simp only [Act.put, List.setIfInBounds_toArray, List.set_cons_zero, List.set_cons_succ])
        refine wpAnyH_take (i := 7) (oi := Oper.mk _ _ _ _ _ _) (v := ?_) rfl (by kernel_rfl) (by kernel_rfl) (by kernel_rfl) (fun _ _ _ h => h) (Or.inl ⟨by kernel_rfl, ?_⟩) hHeld ?_
        rotate_left 1
        · intro W hSw
          (try dsimp only at hSw)
          have h0 := hSw
          go_simp
          (try (with_reducible rfl))
        (try simp only [Act.put, List.setIfInBounds_toArray, List.set_cons_zero, List.set_cons_succ])
        refine wpAnyH_done (by kernel_rfl) ?_ _
        refine NoPanic.normal ?_
        clear hHeld
        go_wp2_with fail
        refine ⟨⟨i + 1, by omega, by go_num, hid (grown_trans HG.out hgg), hid fun j hj hji => ?_⟩, by simp [intOf]; omega⟩
        by_cases e : j = i
        · subst e; rw [← HXX.out, ← HYY.out]; exact HXY.out
        · exact HS.out j hj (by omega)
      · have hxn : (x != y) = true := by simpa using hxy
        have HXY := hid hxy
        clear hxy
        go_upto_region 4 with fail
        refine wp_region_noPanic ?_
        refine wp_region_held_drew (S := (fun W => W.cell? ⟨b', o + i, none⟩ = some (.int .i64 x))) (by kernel_rfl) ?_ (fun hHeld => ?_)
        · (try dsimp only)
          exact (grown_drew _ none).cell hci (by simp)
        have hgg := grown_drew wr none
        generalize wr.drew = wd at *
        refine wpAnyH_take (i := 0) (oi := Oper.mk _ _ _ _ _ _) (v := ?_) rfl (by kernel_rfl) (by kernel_rfl) (by kernel_rfl) (fun _ _ _ h => h) (Or.inl ⟨by kernel_rfl, ?_⟩) hHeld ?_
        rotate_left 1
        · intro W hSw
          (try dsimp only at hSw)
          have h0 := hSw
          go_simp
          (try (with_reducible rfl))
        (try simp only [Act.put, List.setIfInBounds_toArray, List.set_cons_zero, List.set_cons_succ])
        refine wpAnyH_take (i := 1) (oi := Oper.mk _ _ _ _ _ _) (v := ?_) rfl (by kernel_rfl) (by kernel_rfl) (by kernel_rfl) (fun _ _ _ h => h) (Or.inl ⟨by kernel_rfl, ?_⟩) hHeld ?_
        rotate_left 1
        · intro W hSw
          (try dsimp only at hSw)
          have h0 := hSw
          go_simp
          (try (with_reducible rfl))
        (try simp only [Act.put, List.setIfInBounds_toArray, List.set_cons_zero, List.set_cons_succ])
        refine wpAnyH_take (i := 2) (oi := Oper.mk _ _ _ _ _ _) (v := ?_) rfl (by kernel_rfl) (by kernel_rfl) (by kernel_rfl) (fun _ _ _ h => h) (Or.inl ⟨by kernel_rfl, ?_⟩) hHeld ?_
        rotate_left 1
        · intro W hSw
          (try dsimp only at hSw)
          have h0 := hSw
          go_simp
          (try (with_reducible rfl))
        (try simp only [Act.put, List.setIfInBounds_toArray, List.set_cons_zero, List.set_cons_succ])
        refine wpAnyH_take (i := 3) (oi := Oper.mk _ _ _ _ _ _) (v := ?_) rfl (by kernel_rfl) (by kernel_rfl) (by kernel_rfl) (fun _ _ _ h => h) (Or.inl ⟨by kernel_rfl, ?_⟩) hHeld ?_
        rotate_left 1
        · intro W hSw
          (try dsimp only at hSw)
          have h0 := hSw
          go_simp
          (try (with_reducible rfl))
        (try simp only [Act.put, List.setIfInBounds_toArray, List.set_cons_zero, List.set_cons_succ])
        refine wpAnyH_take (i := 4) (oi := Oper.mk _ _ _ _ _ _) (v := ?_) rfl (by kernel_rfl) (by kernel_rfl) (by kernel_rfl) (fun _ _ _ h => h) (Or.inl ⟨by kernel_rfl, ?_⟩) hHeld ?_
        rotate_left 1
        · intro W hSw
          (try dsimp only at hSw)
          have h0 := hSw
          go_simp
          (try (with_reducible rfl))
        (try simp only [Act.put, List.setIfInBounds_toArray, List.set_cons_zero, List.set_cons_succ])
        refine wpAnyH_take (i := 5) (oi := Oper.mk _ _ _ _ _ _) (v := ?_) rfl (by kernel_rfl) (by kernel_rfl) (by kernel_rfl) (fun _ _ _ h => h) (Or.inl ⟨by kernel_rfl, ?_⟩) hHeld ?_
        rotate_left 1
        · intro W hSw
          (try dsimp only at hSw)
          have h0 := hSw
          go_simp
          (try (with_reducible rfl))
        (try simp only [Act.put, List.setIfInBounds_toArray, List.set_cons_zero, List.set_cons_succ])
        refine wpAnyH_ready (rs := [6]) (by kernel_rfl) (by simp) ?_
        refine AllReadyH.cons (o := Oper.mk _ _ _ _ _ _) rfl (fun K hK => ?_) AllReadyH.nil
        (try rw [if_pos (by kernel_rfl)])
        go_simp
        go_at_call 97
        refine (HEX.out _ hgg).mono ?_
        rintro e _ ⟨rfl, rfl⟩
        refine hK.out _ _ ?_ (fun hNew => ?_)
        · have hH := hHeld
          (try dsimp only at hH)
          (try dsimp only)
          with_reducible exact hH
        clear hK K hHeld
        have hHeld := hNew
        clear hNew
        (try simp only [Act.put, List.setIfInBounds_toArray, List.set_cons_zero, List.set_cons_succ])
        refine wpAnyH_take (i := 7) (oi := Oper.mk _ _ _ _ _ _) (v := ?_) rfl (by kernel_rfl) (by kernel_rfl) (by kernel_rfl) (fun _ _ _ h => h) (Or.inl ⟨by kernel_rfl, ?_⟩) hHeld ?_
        rotate_left 1
        · intro W hSw
          (try dsimp only at hSw)
          have h0 := hSw
          go_simp
          (try (with_reducible rfl))
        (try simp only [Act.put, List.setIfInBounds_toArray, List.set_cons_zero, List.set_cons_succ])
        refine wpAnyH_done (by kernel_rfl) ?_ _
        refine NoPanic.normal ?_
        clear hHeld
        go_wp2_with fail
        go_ret
        have hf : decide (∀ i (hi : i < xs.length), xs[i] = ex ys i) = false := decide_eq_false fun h => HXY.out (by rw [HXX.out, HYY.out]; exact h i hil)
        exact ⟨by (rw [hf]; first | done | rfl), grown_trans HG.out hgg⟩
    · obtain rfl : i = n := by omega
      go_wp2_with fail
      go_ret
      have hf : decide (∀ i (hi : i < xs.length), xs[i] = ex ys i) = true := decide_eq_true fun j hj => HS.out j hj (by have := HL.out; omega)
      exact ⟨by (rw [hf]; first | done | rfl), HG.out⟩
theorem zeros_is (xs : List Int) : decide (∀ i (hi : i < xs.length), xs[i] = ex (normZ xs) i) = decide (RightZ 1048576 (trimZ xs)) := by
  unfold normZ
  by_cases h : RightZ 1048576 (trimZ xs)
  · rw [if_pos h, decide_eq_true h]
    exact decide_eq_true fun i hi => by rw [ex_trimZ, ex_lt hi]
  · rw [if_neg h, decide_eq_false h]
    refine decide_eq_false fun hz => h ?_
    rw [trimZ_zero.2 fun x hx => by
      obtain ⟨i, hi, rfl⟩ := List.getElem_of_mem hx
      rw [hz i hi, ex_nil]]
    exact RightZ.nil
set_option maxHeartbeats 16000000 in
set_option maxRecDepth 100000 in
theorem rNorm6_v (S : Nat) {w : World} {p : Option Addr} {n c : Nat} {P : List Tm} {N1 N2 : Nat → Nat} (h : IsR w p n c P N1 N2) (hn : n * (S + 1) ≤ 9000) (h0 : 0 < S) (hS : S ≤ 9000) (hN : ∀ i, i < n → N1 i ≤ S ∧ N2 i ≤ S) (hz : ∀ i (hi : i < P.length), P[i].1.length ≤ 1000000) :
    Calls Tryz.prog 17 #[.slice p n c] w (PPost w (normP P)) := by
  have hl := h.len; have hc := h.cap; have hmx := h.max
  have hn2 : n ≤ 9000 := by
    rcases Nat.eq_zero_or_pos n with e | e
    · omega
    · have : n * 1 ≤ n * (S + 1) := Nat.mul_le_mul_left _ (by omega)
      omega
  have hfin : accP (fun i => normT (tmI P i)) n = normP P := by rw [← hl]; exact normP_acc P
  have hg : ∀ i, i < n → (normT (tmI P i)).length ≤ 1 ∧ BdP S (normT (tmI P i)) ∧ ExP 1048576 (normT (tmI P i)) := fun i hi => ⟨normT_len _, fun u hu => by
      rw [(normT_mem hu).1, tmI_at (by omega)]
      obtain ⟨b, o, cs, -, -, ht⟩ := h.tms i (by omega)
      exact ht.bd h0 (hN i hi).1 (hN i hi).2, fun u hu => (normT_mem hu).2.2⟩
  have HADD := hid fun i (hi : i < n) W (hgw : w.grownBy W none) p1 n1 c1 (h1 : IsP W p1 n1 c1 (accP (fun i => normT (tmI P i)) i)) (hsp : Spot p1) g q1 m1 d1 q2 m2 d2 v (hA : IsQ W g q1 m1 d1 q2 m2 d2 v) (b1 : m1 ≤ S) (b2 : m2 ≤ S) a k e ms (hM : ZRd W .i64 a k e ms) (eM : RightZ 1048576 ms) => by
    obtain ⟨x1, x2, x3⟩ := acc_facts (L := 1) (M := S) (B := 1048576) i (fun j hj => hg j (by omega))
    have z1 : i * (S + 1) ≤ n * (S + 1) := Nat.mul_le_mul_right _ (by omega)
    exact rAdd1_v 9000 1048576 h1 (x2.mono (by omega)) x3 (NF.acc fun j hj => NF.normT _) hA (by omega) (by omega) hM eM ⟨by omega, by omega⟩ (by omega) (by have := h1.len; omega) hsp
  have HI := hid h; have HZ := hid hz; have HNN := hid hN
  have HF := hid hfin
  unfold PPostS at HADD
  clear h hz hN hg hfin hn
  go_enter Tryz.func17, Tryz.ntmps17
  go_wp2_with fail
  go_loopw [3, 4] (fun x y wr => ∃ (i : Nat) (po : Option Addr) (no co : Nat), i ≤ n ∧ x = .slice po no co ∧ y = .int .i64 i ∧ Hid (w.grownBy wr none) ∧ Hid (IsP wr po no co (accP (fun i => normT (tmI P i)) i) ∧ Spot po)) (fun _ y _ => n - (intOf y).toNat)
  case atStart => exact ⟨0, none, 0, 0, Nat.zero_le _, rfl, rfl, hid (grown_refl _ _), hid ⟨IsP.nil _, spotN⟩⟩
  case round =>
    obtain ⟨i, po, no, co, hi, rfl, rfl, HG, HO⟩ := hrel
    by_cases hlt : i < n
    · have hil : i < P.length := by omega
      obtain ⟨b, o, cs, rfl, hcs, g, p1, c1, q1, d1, a, k, e, xs, ys, rfl, hX, hY, ⟨dx, dy⟩, hZ, hv⟩ := (HI.out.keep HG.out).tms i hil
      obtain ⟨hn1, hn2'⟩ := HNN.out i hlt
      have hzl := HZ.out i hil
      generalize N1 i = n1 at *
      generalize N2 i = n2 at *
      have x0 := hcs 0 (by simp); have x1 := hcs 1 (by simp); have x2 := hcs 2 (by simp); have x3 := hcs 3 (by simp)
      simp only [List.getElem_cons_zero, List.getElem_cons_succ, Nat.add_zero] at x0 x1 x2 x3
      have hA : IsQ wr g p1 n1 c1 q1 n2 d1 P[i].2 := by rw [hv]; exact IsQ.of g hX dx hY dy
      have HTT : Hid (accP (fun i => normT (tmI P i)) (i + 1) = addP (accP (fun i => normT (tmI P i)) i) (normT (P[i].1, P[i].2))) := hid (by rw [← tmI_at hil]; rfl)
      obtain ⟨t, ht⟩ : ∃ t, t = P[i] := ⟨_, rfl⟩
      rw [← ht] at hA hZ HTT hzl
      obtain ⟨zs, v⟩ := t
      dsimp only at hA hZ HTT hzl
      have hkc := hZ.cap; have hkm := hZ.max; have hkl := hZ.len
      have HN5 := hid (rnormM_any a k e zs wr hZ (by omega))
      have HZE := hid fun W (hg : wr.grownBy W none) pm cm (hM : ZRd W .i64 pm (normZ zs).length cm (normZ zs)) => zeros_v (hZ.keep hg) hM
      rw [zeros_is] at HZE
      have HADI := hid (HADD.out i hlt)
      have HNT : Hid (normT (zs, v) = if RightZ 1048576 (trimZ zs) then one (trimZ zs) v else []) := hid rfl
      have HNZ : Hid (normZ zs = if RightZ 1048576 (trimZ zs) then trimZ zs else []) := hid rfl
      unfold ZRes at HN5
      obtain ⟨ms, hms⟩ : ∃ ms, ms = normZ zs := ⟨_, rfl⟩
      rw [← hms] at HN5 HZE HNZ
      obtain ⟨nl, hnl⟩ : ∃ x, x = ms.length := ⟨_, rfl⟩
      rw [← hnl] at HN5 HZE
      have HQ := hid hA
      clear hA hX hY dx dy hZ hv hcs ht hms hnl hzl hkl
      by_cases hr : RightZ 1048576 (trimZ zs)
      · rw [decide_eq_true hr] at HZE
        rw [if_pos hr] at HNT HNZ
        have HRM : Hid (RightZ 1048576 ms) := hid (by rw [HNZ.out]; exact hr)
        have HB12 := hid (And.intro hn1 hn2')
        clear hr
        go_wp2_with (first
          | (go_at_call 69; (with_reducible refine HN5.out.mono ?_); rintro e1 w1 ⟨pz, cz, rfl, hz, hg⟩; have HMZ := hid hz; have HGZ := hid hg; replace HG := hid (grown_trans HG.out hg); replace HO := hid (And.intro (HO.out.1.keep hg) HO.out.2); replace HQ := hid (HQ.out.keep hg); replace x0 := hg.cell x0 (by simp); replace x1 := hg.cell x1 (by simp); replace x2 := hg.cell x2 (by simp); replace x3 := hg.cell x3 (by simp); clear hz hg)
          | (go_at_call 70; (with_reducible refine (HZE.out _ HGZ.out _ _ HMZ.out).mono ?_); rintro e2 w2 ⟨rfl, hg⟩; replace HMZ := hid (HMZ.out.keep hg); replace HG := hid (grown_trans HG.out hg); replace HO := hid (And.intro (HO.out.1.keep hg) HO.out.2); replace HQ := hid (HQ.out.keep hg); replace x0 := hg.cell x0 (by simp); replace x1 := hg.cell x1 (by simp); replace x2 := hg.cell x2 (by simp); replace x3 := hg.cell x3 (by simp); clear hg)
          | (go_at_call 71; (with_reducible refine (HADI.out _ HG.out _ _ _ HO.out.1 HO.out.2 _ _ _ _ _ _ _ _ HQ.out HB12.out.1 HB12.out.2 _ _ _ _ HMZ.out HRM.out).mono ?_); rintro e3 w3 ⟨p3, n3, c3, rfl, hP3, hg⟩; have HP3 := hid hP3; replace HG := hid (grown_trans HG.out hg); clear hP3 hg))
        refine ⟨⟨i + 1, p3, n3, c3, by omega, rfl, by go_num, HG, hid ⟨?_, HP3.out.2⟩⟩, by simp [intOf]; omega⟩
        rw [HTT.out, HNT.out, ← HNZ.out]
        exact HP3.out.1
      · rw [decide_eq_false hr] at HZE
        rw [if_neg hr] at HNT HNZ
        clear hr
        go_wp2_with (first
          | (go_at_call 69; (with_reducible refine HN5.out.mono ?_); rintro e1 w1 ⟨pz, cz, rfl, hz, hg⟩; have HMZ := hid hz; have HGZ := hid hg; replace HG := hid (grown_trans HG.out hg); replace HO := hid (And.intro (HO.out.1.keep hg) HO.out.2); replace x0 := hg.cell x0 (by simp); replace x1 := hg.cell x1 (by simp); replace x2 := hg.cell x2 (by simp); replace x3 := hg.cell x3 (by simp); clear hz hg)
          | (go_at_call 70; (with_reducible refine (HZE.out _ HGZ.out _ _ HMZ.out).mono ?_); rintro e2 w2 ⟨rfl, hg⟩; replace HG := hid (grown_trans HG.out hg); replace HO := hid (And.intro (HO.out.1.keep hg) HO.out.2); clear hg))
        refine ⟨⟨i + 1, po, no, co, by omega, rfl, by go_num, HG, hid ⟨?_, HO.out.2⟩⟩, by simp [intOf]; omega⟩
        rw [HTT.out, HNT.out, addP_nil]
        exact HO.out.1
    · obtain rfl : i = n := by omega
      go_wp2_with fail
      go_ret
      exact ⟨_, _, _, rfl, by first | (rw [← HF.out]; exact HO.out.1) | exact HO.out.1, HG.out⟩
set_option maxHeartbeats 4000000 in
set_option maxRecDepth 100000 in
theorem descends_v {w : World} {B : Int} (g1 : Bool) (p1 : Option Addr) (n1 c1 : Nat) (q1 : Option Addr) (m1 d1 : Nat) {a1 : Option Addr} {k1 e1 : Nat} (g2 : Bool) (p2 : Option Addr) (n2 c2 : Nat) (q2 : Option Addr) (m2 d2 : Nat) {a2 : Option Addr} {k2 e2 : Nat} {xs ys : List Int} (hx : ZRd w .i64 a1 k1 e1 xs) (hy : ZRd w .i64 a2 k2 e2 ys) (rx : RightZ B xs) (ry : RightZ B ys) (hB : 0 ≤ B ∧ B ≤ 4294967296) :
    Calls Tryz.prog 65 #[.agg #[.bool g1, .slice p1 n1 c1, .slice q1 m1 d1, .slice a1 k1 e1], .agg #[.bool g2, .slice p2 n2 c2, .slice q2 m2 d2, .slice a2 k2 e2]] w fun e w' => e = .returned (.bool (decide (0 < lexL xs ys))) ∧ w.grownBy w' none := by
  have HC := hid fun W (hg : w.grownBy W none) => cmpM_any a1 a2 k1 k2 e1 e2 xs ys 0 W (hx.keep hg) (hy.keep hg) rx ry hB hB
  have ho : ordZ 0 xs ys = lexL xs ys := by unfold ordZ; rw [if_neg (by intro h; have := h.1; omega)]
  rw [ho] at HC
  obtain ⟨z, hz⟩ : ∃ z, z = lexL xs ys := ⟨_, rfl⟩
  rw [← hz] at HC ⊢
  clear hx hy rx ry ho hz
  have hW := grown_trans (World.grownBy_alloc w (.cells #[.bool g1, .slice p1 n1 c1, .slice q1 m1 d1, .slice a1 k1 e1] 33 (0, 0)) none) (World.grownBy_alloc (w.alloc (.cells #[.bool g1, .slice p1 n1 c1, .slice q1 m1 d1, .slice a1 k1 e1] 33 (0, 0))) (.cells #[.bool g2, .slice p2 n2 c2, .slice q2 m2 d2, .slice a2 k2 e2] 33 (0, 0)) none)
  obtain ⟨k0, k1', k2', k3⟩ := box4p (keepB (blk0 w (.cells #[.bool g1, .slice p1 n1 c1, .slice q1 m1 d1, .slice a1 k1 e1] 33 (0, 0))) (World.grownBy_alloc (w.alloc (.cells #[.bool g1, .slice p1 n1 c1, .slice q1 m1 d1, .slice a1 k1 e1] 33 (0, 0))) (.cells #[.bool g2, .slice p2 n2 c2, .slice q2 m2 d2, .slice a2 k2 e2] 33 (0, 0)) none))
  have hsz : (w.alloc (.cells #[.bool g1, .slice p1 n1 c1, .slice q1 m1 d1, .slice a1 k1 e1] 33 (0, 0))).heap.size = w.heap.size + 1 := by simp
  have B2 := blk0 (w.alloc (.cells #[.bool g1, .slice p1 n1 c1, .slice q1 m1 d1, .slice a1 k1 e1] 33 (0, 0))) (.cells #[.bool g2, .slice p2 n2 c2, .slice q2 m2 d2, .slice a2 k2 e2] 33 (0, 0))
  rw [hsz] at B2
  obtain ⟨l0, l1, l2, l3⟩ := box4p B2
  clear hsz B2
  by_cases hz0 : 0 < z
  · rw [decide_eq_true hz0]
    go_enter Tryz.func65, Tryz.ntmps65
    go_upto_region 1 with fail
    generalize ((w.alloc _).alloc _) = w0 at *
    go_wp2_with (go_at_call 79; (with_reducible refine (HC.out _ hW).mono ?_); rintro e w1 ⟨rfl, rfl⟩)
    go_ret
    exact ⟨by first | rfl | simp [hz0], hW⟩
  · rw [decide_eq_false hz0]
    go_enter Tryz.func65, Tryz.ntmps65
    go_upto_region 1 with fail
    generalize ((w.alloc _).alloc _) = w0 at *
    go_wp2_with (go_at_call 79; (with_reducible refine (HC.out _ hW).mono ?_); rintro e w1 ⟨rfl, rfl⟩)
    go_ret
    exact ⟨by first | rfl | simp [hz0] | (simp; omega), hW⟩
set_option maxHeartbeats 16000000 in
set_option maxRecDepth 100000 in
theorem pRight6_w (R : Nat → Bool) {w : World} {p : Option Addr} {n c : Nat} {P : List Tm} (hl : P.length = n) (hc : n ≤ c) (hx : c ≤ 9223372036854775807) (hQ : ∀ i (hi : i < P.length), TmQ w p i (R i) P[i]) :
    Calls Tryz.prog 14 #[.slice p n c] w fun e w' => e = .returned (.bool (goodP R P)) ∧ w.grownBy w' none := by
  have HQ := hid hQ; have HL := hid hl
  clear hQ hl
  go_enter Tryz.func14, Tryz.ntmps14
  go_wp2_with fail
  go_loopw [7] (fun x wr => ∃ (i : Nat), i ≤ n ∧ x = .int .i64 i ∧ Hid (w.grownBy wr none) ∧ Hid (∀ j, j < i → goodI R P j)) (fun x _ => n - (intOf x).toNat)
  case atStart => exact ⟨0, Nat.zero_le _, rfl, hid (grown_refl _ _), hid fun j h => absurd h (Nat.not_lt_zero j)⟩
  case round =>
    obtain ⟨i, hi, rfl, HG, HS⟩ := hrel
    by_cases hlt : i < n
    · have hil : i < P.length := by have := HL.out; omega
      obtain ⟨b, o, g, p1, n1, c1, q1, m1, d1, a, k, e, rfl, ⟨x0, x1, x2, x3⟩, hV, ⟨hn1, hm1⟩, hZ, -, hR, -⟩ := HQ.out i hil
      have HT := hid (tmI_at hil)
      have HF : Hid (¬ goodI R P i → goodP R P = false) := hid fun h => decide_eq_false fun h2 => h (h2 i hil)
      obtain ⟨t, ht⟩ : ∃ t, t = P[i] := ⟨_, rfl⟩
      rw [← ht] at hV hZ HT
      obtain ⟨zs, v⟩ := t
      dsimp only at hV hZ
      obtain ⟨r, hr⟩ : ∃ r, r = R i := ⟨_, rfl⟩
      rw [← hr] at hR
      have HR3 := hid hR
      have HSG := hid fun W (hg : w.grownBy W none) => ratSign_v 9000 (hV.keep hg) hn1 hm1 (by omega)
      have HRT := hid fun W (hg : w.grownBy W none) => right_any a k e zs W (hZ.keep hg)
      obtain ⟨y, hy⟩ : ∃ y, y = decide (RightZ 1048576 zs) := ⟨_, rfl⟩
      rw [← hy] at HRT
      have hz0 : cmpR v 0 = 0 ↔ v = 0 := cmpR_zero
      obtain ⟨z, hz⟩ : ∃ z, z = cmpR v 0 := ⟨_, rfl⟩
      rw [← hz] at HSG hz0
      have HZZ := hid hz0; have HY := hid hy; have HRI := hid hr
      have HZ0 := hid hZ
      have hg0 := HG.out
      replace x0 := hg0.cell x0 (by simp); replace x1 := hg0.cell x1 (by simp); replace x2 := hg0.cell x2 (by simp); replace x3 := hg0.cell x3 (by simp)
      clear hV hZ hR hr ht hy hz hz0 hg0
      have gA := World.grownBy_alloc wr (.cells #[.bool g, .slice p1 n1 c1, .slice q1 m1 d1, .slice a k e] 33 (0, 0)) none
      have BA := hid (blk0 wr (.cells #[.bool g, .slice p1 n1 c1, .slice q1 m1 d1, .slice a k e] 33 (0, 0)))
      obtain ⟨i0, i1, i2, i3⟩ := box4p (blk0 wr (.cells #[.bool false, .slice none 0 0, .slice none 0 0, .slice none 0 0] 33 (0, 0)))
      have fa := fun o => frozen_of_row (wr.alloc (.cells #[.bool false, .slice none 0 0, .slice none 0 0, .slice none 0 0] 33 (0, 0))) wr.heap.size o _ _ (blk0 wr (.cells #[.bool false, .slice none 0 0, .slice none 0 0, .slice none 0 0] 33 (0, 0)))
      have f0 := fa 0; have f1 := fa 1; have f2 := fa 2; have f3 := fa 3
      clear fa
      go_upto_region 4 with fail
      clear i0 i1 i2 i3 f0 f1 f2 f3 x0 x1 x2 x3
      replace HG := hid (grown_trans HG.out gA)
      obtain ⟨b1, hb1⟩ : ∃ x, x = wr.heap.size := ⟨_, rfl⟩
      rw [← hb1] at BA ⊢
      clear gA hb1
      generalize wr.alloc _ = w1 at *
      obtain ⟨k0, k1', k2', k3⟩ := box4p BA.out
      cases r
      · have hbad : Hid (¬ goodI R P i) := hid fun h => by have := h.1; rw [← HRI.out] at this; cases this
        go_wp2_with (first
          | (go_at_call 62; (with_reducible refine (HR3.out _ HG.out).mono ?_); rintro e w1' ⟨rfl, hg⟩; replace HG := hid (grown_trans HG.out hg); replace BA := hid (keepB BA.out hg); replace k0 := hg.cell k0 (by simp); replace k1' := hg.cell k1' (by simp); replace k2' := hg.cell k2' (by simp); replace k3 := hg.cell k3 (by simp); clear hg)
          | (go_at_call 63; (with_reducible refine (HSG.out _ HG.out).mono ?_); rintro e w2 ⟨rfl, hg⟩; replace HG := hid (grown_trans HG.out hg); replace BA := hid (keepB BA.out hg); replace k0 := hg.cell k0 (by simp); replace k1' := hg.cell k1' (by simp); replace k2' := hg.cell k2' (by simp); replace k3 := hg.cell k3 (by simp); clear hg)
          | (go_at_call 64; (with_reducible refine (HRT.out _ HG.out).mono ?_); rintro e w3 ⟨rfl, rfl⟩))
        go_ret
        exact ⟨by (rw [HF.out hbad.out]; first | done | rfl), HG.out⟩
      · by_cases hz0 : z = 0
        · subst hz0
          have hbad : Hid (¬ goodI R P i) := hid fun h => by have := h.2.1; rw [HT.out] at this; exact this (HZZ.out.1 (by first | rfl | trivial))
          go_wp2_with (first
            | (go_at_call 62; (with_reducible refine (HR3.out _ HG.out).mono ?_); rintro e w1' ⟨rfl, hg⟩; replace HG := hid (grown_trans HG.out hg); replace BA := hid (keepB BA.out hg); replace k0 := hg.cell k0 (by simp); replace k1' := hg.cell k1' (by simp); replace k2' := hg.cell k2' (by simp); replace k3 := hg.cell k3 (by simp); clear hg)
            | (go_at_call 63; (with_reducible refine (HSG.out _ HG.out).mono ?_); rintro e w2 ⟨rfl, hg⟩; replace HG := hid (grown_trans HG.out hg); replace BA := hid (keepB BA.out hg); replace k0 := hg.cell k0 (by simp); replace k1' := hg.cell k1' (by simp); replace k2' := hg.cell k2' (by simp); replace k3 := hg.cell k3 (by simp); clear hg)
            | (go_at_call 64; (with_reducible refine (HRT.out _ HG.out).mono ?_); rintro e w3 ⟨rfl, rfl⟩))
          go_ret
          exact ⟨by (rw [HF.out hbad.out]; first | done | rfl), HG.out⟩
        · cases y
          · have hbad : Hid (¬ goodI R P i) := hid fun h => by have := h.2.2.1; rw [HT.out] at this; exact of_decide_eq_false HY.out.symm this
            go_wp2_with (first
              | (go_at_call 62; (with_reducible refine (HR3.out _ HG.out).mono ?_); rintro e w1' ⟨rfl, hg⟩; replace HG := hid (grown_trans HG.out hg); replace BA := hid (keepB BA.out hg); replace k0 := hg.cell k0 (by simp); replace k1' := hg.cell k1' (by simp); replace k2' := hg.cell k2' (by simp); replace k3 := hg.cell k3 (by simp); clear hg)
              | (go_at_call 63; (with_reducible refine (HSG.out _ HG.out).mono ?_); rintro e w2 ⟨rfl, hg⟩; replace HG := hid (grown_trans HG.out hg); replace BA := hid (keepB BA.out hg); replace k0 := hg.cell k0 (by simp); replace k1' := hg.cell k1' (by simp); replace k2' := hg.cell k2' (by simp); replace k3 := hg.cell k3 (by simp); clear hg)
              | (go_at_call 64; (with_reducible refine (HRT.out _ HG.out).mono ?_); rintro e w3 ⟨rfl, rfl⟩))
            go_ret
            exact ⟨by (rw [HF.out hbad.out]; first | done | rfl), HG.out⟩
          · have HGD : Hid (R i = true ∧ (tmI P i).2 ≠ 0 ∧ RightZ 1048576 (tmI P i).1) := hid ⟨HRI.out.symm, by rw [HT.out]; exact fun h => hz0 (HZZ.out.2 h), by rw [HT.out]; exact of_decide_eq_true HY.out.symm⟩
            rcases Nat.eq_zero_or_pos i with h0 | hpos
            · subst h0
              go_upto_region 6 with (first
                | (go_at_call 62; (with_reducible refine (HR3.out _ HG.out).mono ?_); rintro e w1' ⟨rfl, hg⟩; replace HG := hid (grown_trans HG.out hg); replace BA := hid (keepB BA.out hg); replace k0 := hg.cell k0 (by simp); replace k1' := hg.cell k1' (by simp); replace k2' := hg.cell k2' (by simp); replace k3 := hg.cell k3 (by simp); clear hg)
                | (go_at_call 63; (with_reducible refine (HSG.out _ HG.out).mono ?_); rintro e w2 ⟨rfl, hg⟩; replace HG := hid (grown_trans HG.out hg); replace BA := hid (keepB BA.out hg); replace k0 := hg.cell k0 (by simp); replace k1' := hg.cell k1' (by simp); replace k2' := hg.cell k2' (by simp); replace k3 := hg.cell k3 (by simp); clear hg)
                | (go_at_call 64; (with_reducible refine (HRT.out _ HG.out).mono ?_); rintro e w3 ⟨rfl, rfl⟩))
              refine wp_region_noPanic ?_
              refine wp_region_held_drew (S := (fun W => True)) (by kernel_rfl) ?_ (fun hHeld => ?_)
              · trivial
              refine wpAnyH_take (i := 0) (oi := Oper.mk _ _ _ _ _ _) (v := ?_) rfl (by kernel_rfl) (by kernel_rfl) (by kernel_rfl) (fun _ _ _ h => h) (Or.inl ⟨by kernel_rfl, ?_⟩) hHeld ?_
              rotate_left 1
              · intro W hSw
                (try dsimp only at hSw)
                clear hSw
                go_simp
                (try (with_reducible rfl))
              (try simp only [Act.put, List.setIfInBounds_toArray, List.set_cons_zero, List.set_cons_succ])
              refine wpAnyH_take (i := 1) (oi := Oper.mk _ _ _ _ _ _) (v := ?_) rfl (by kernel_rfl) (by kernel_rfl) (by kernel_rfl) (fun _ _ _ h => h) (Or.inl ⟨by kernel_rfl, ?_⟩) hHeld ?_
              rotate_left 1
              · intro W hSw
                (try dsimp only at hSw)
                clear hSw
                go_simp
                (try (with_reducible rfl))
              (try simp only [Act.put, List.setIfInBounds_toArray, List.set_cons_zero, List.set_cons_succ])
              refine wpAnyH_take (i := 2) (oi := Oper.mk _ _ _ _ _ _) (v := ?_) rfl (by kernel_rfl) (by kernel_rfl) (by kernel_rfl) (fun _ _ _ h => h) (Or.inl ⟨by kernel_rfl, ?_⟩) hHeld ?_
              rotate_left 1
              · intro W hSw
                (try dsimp only at hSw)
                clear hSw
                go_simp
                (try (with_reducible rfl))
              (try simp only [Act.put, List.setIfInBounds_toArray, List.set_cons_zero, List.set_cons_succ])
              refine wpAnyH_take (i := 3) (oi := Oper.mk _ _ _ _ _ _) (v := undef) rfl (by kernel_rfl) (by kernel_rfl) (by kernel_rfl) (fun _ _ _ h => h) (Or.inr ⟨by kernel_rfl, rfl⟩) hHeld ?_
              (try simp only [Act.put, List.setIfInBounds_toArray, List.set_cons_zero, List.set_cons_succ])
              refine wpAnyH_take (i := 4) (oi := Oper.mk _ _ _ _ _ _) (v := undef) rfl (by kernel_rfl) (by kernel_rfl) (by kernel_rfl) (fun _ _ _ h => h) (Or.inr ⟨by kernel_rfl, rfl⟩) hHeld ?_
              (try simp only [Act.put, List.setIfInBounds_toArray, List.set_cons_zero, List.set_cons_succ])
              refine wpAnyH_take (i := 5) (oi := Oper.mk _ _ _ _ _ _) (v := undef) rfl (by kernel_rfl) (by kernel_rfl) (by kernel_rfl) (fun _ _ _ h => h) (Or.inr ⟨by kernel_rfl, rfl⟩) hHeld ?_
              (try simp only [Act.put, List.setIfInBounds_toArray, List.set_cons_zero, List.set_cons_succ])
              refine wpAnyH_take (i := 6) (oi := Oper.mk _ _ _ _ _ _) (v := undef) rfl (by kernel_rfl) (by kernel_rfl) (by kernel_rfl) (fun _ _ _ h => h) (Or.inr ⟨by kernel_rfl, rfl⟩) hHeld ?_
              (try simp only [Act.put, List.setIfInBounds_toArray, List.set_cons_zero, List.set_cons_succ])
              refine wpAnyH_take (i := 7) (oi := Oper.mk _ _ _ _ _ _) (v := undef) rfl (by kernel_rfl) (by kernel_rfl) (by kernel_rfl) (fun _ _ _ h => h) (Or.inr ⟨by kernel_rfl, rfl⟩) hHeld ?_
              (try simp only [Act.put, List.setIfInBounds_toArray, List.set_cons_zero, List.set_cons_succ])
              refine wpAnyH_take (i := 8) (oi := Oper.mk _ _ _ _ _ _) (v := undef) rfl (by kernel_rfl) (by kernel_rfl) (by kernel_rfl) (fun _ _ _ h => h) (Or.inr ⟨by kernel_rfl, rfl⟩) hHeld ?_
              (try simp only [Act.put, List.setIfInBounds_toArray, List.set_cons_zero, List.set_cons_succ])
              refine wpAnyH_take (i := 9) (oi := Oper.mk _ _ _ _ _ _) (v := undef) rfl (by kernel_rfl) (by kernel_rfl) (by kernel_rfl) (fun _ _ _ h => h) (Or.inr ⟨by kernel_rfl, rfl⟩) hHeld ?_
              (try simp only [Act.put, List.setIfInBounds_toArray, List.set_cons_zero, List.set_cons_succ])
              refine wpAnyH_take (i := 10) (oi := Oper.mk _ _ _ _ _ _) (v := undef) rfl (by kernel_rfl) (by kernel_rfl) (by kernel_rfl) (fun _ _ _ h => h) (Or.inr ⟨by kernel_rfl, rfl⟩) hHeld ?_
              (try simp only [Act.put, List.setIfInBounds_toArray, List.set_cons_zero, List.set_cons_succ])
              refine wpAnyH_take (i := 11) (oi := Oper.mk _ _ _ _ _ _) (v := ?_) rfl (by kernel_rfl) (by kernel_rfl) (by kernel_rfl) (fun _ _ _ h => h) (Or.inl ⟨by kernel_rfl, ?_⟩) hHeld ?_
              rotate_left 1
              · intro W hSw
                (try dsimp only at hSw)
                clear hSw
                go_simp
                (try (with_reducible rfl))
              (try simp only [Act.put, List.setIfInBounds_toArray, List.set_cons_zero, List.set_cons_succ])
              refine wpAnyH_done (by kernel_rfl) ?_ _
              refine NoPanic.normal ?_
              clear hHeld
              go_wp2_with fail
              refine ⟨⟨0 + 1, by omega, by go_num, hid (grown_trans HG.out (grown_drew _ none)), hid fun j hj => ?_⟩, by simp [intOf]; omega⟩
              obtain rfl : j = 0 := by omega
              have := HGD.out
              exact ⟨this.1, this.2.1, this.2.2, .inl rfl⟩
            · obtain ⟨j, rfl⟩ : ∃ j, i = j + 1 := ⟨i - 1, by omega⟩
              have hjl : j < P.length := by omega
              obtain ⟨b', o', g2, p2, n2, c2, q2, m2, d2, a2, k2, e2, hp', ⟨y0, y1, y2, y3⟩, -, -, hZ2, -, -, -⟩ := HQ.out j hjl
              cases hp'
              have HT2 := hid (tmI_at hjl)
              have hg2 := (HS.out j (by omega)).2.2.1
              obtain ⟨t2, ht2⟩ : ∃ t, t = P[j] := ⟨_, rfl⟩
              rw [← ht2] at hZ2 HT2
              rw [HT2.out] at hg2
              have hg3 := HGD.out.2.2
              rw [HT.out] at hg3
              obtain ⟨zs2, v2⟩ := t2
              dsimp only at hZ2 hg2 hg3
              have HDS := hid fun W (hg : w.grownBy W none) => descends_v g2 p2 n2 c2 q2 m2 d2 g p1 n1 c1 q1 m1 d1 (hZ2.keep hg) (HZ0.out.keep hg) hg2 hg3 ⟨by omega, by omega⟩
              obtain ⟨l, hl⟩ : ∃ l, l = lexL zs2 zs := ⟨_, rfl⟩
              rw [← hl] at HDS
              have HLL : Hid ((l ≤ 0 → ¬ goodI R P (j + 1)) ∧ (¬ l ≤ 0 → goodI R P (j + 1))) := hid ⟨fun h h2 => by
                rcases h2.2.2.2 with h3 | h3
                · omega
                · rw [show j + 1 - 1 = j by omega, HT2.out, HT.out] at h3
                  dsimp only at h3
                  omega, fun h => ⟨HGD.out.1, HGD.out.2.1, HGD.out.2.2, .inr (by
                    rw [show j + 1 - 1 = j by omega, HT2.out, HT.out]
                    dsimp only
                    omega)⟩⟩
              have hjn : j < n := by omega
              have hwj : IntKind.i64.wrap (j : Int) = (j : Int) := wrapI64 (by omega) (by omega)
              obtain ⟨qb, hqb⟩ : ∃ q, q = decide (0 < l) := ⟨_, rfl⟩
              rw [← hqb] at HDS
              have Y0 := hid y0; have Y1 := hid y1; have Y2 := hid y2; have Y3 := hid y3
              clear y0 y1 y2 y3 hZ2 ht2 hg2 hg3 hl HZ0
              go_upto_region 6 with (first
                | (go_at_call 62; (with_reducible refine (HR3.out _ HG.out).mono ?_); rintro e w1' ⟨rfl, hg⟩; replace HG := hid (grown_trans HG.out hg); replace BA := hid (keepB BA.out hg); replace k0 := hg.cell k0 (by simp); replace k1' := hg.cell k1' (by simp); replace k2' := hg.cell k2' (by simp); replace k3 := hg.cell k3 (by simp); clear hg)
                | (go_at_call 63; (with_reducible refine (HSG.out _ HG.out).mono ?_); rintro e w2 ⟨rfl, hg⟩; replace HG := hid (grown_trans HG.out hg); replace BA := hid (keepB BA.out hg); replace k0 := hg.cell k0 (by simp); replace k1' := hg.cell k1' (by simp); replace k2' := hg.cell k2' (by simp); replace k3 := hg.cell k3 (by simp); clear hg)
                | (go_at_call 64; (with_reducible refine (HRT.out _ HG.out).mono ?_); rintro e w3 ⟨rfl, rfl⟩))
              replace Y0 := hid (HG.out.cell Y0.out (by simp)); replace Y1 := hid (HG.out.cell Y1.out (by simp)); replace Y2 := hid (HG.out.cell Y2.out (by simp)); replace Y3 := hid (HG.out.cell Y3.out (by simp))
              replace HDS := hid fun W hg => HDS.out W (grown_trans HG.out hg)
              clear k0 k1' k2' k3
              by_cases hl0 : l ≤ 0
              · have hq : qb = false := by rw [hqb]; exact decide_eq_false (by omega)
                subst hq
                clear hqb
                refine wp_region_noPanic ?_
                refine wp_region_held_drew (S := (fun W => W.heap[b1]? = some (.cells #[.bool g, .slice p1 n1 c1, .slice q1 m1 d1, .slice a k e] 33 (0, 0)) ∧ W.cell? ⟨b, o + j * 4, none⟩ = some (.bool g2) ∧ W.cell? ⟨b, o + j * 4 + 1, none⟩ = some (.slice p2 n2 c2) ∧ W.cell? ⟨b, o + j * 4 + 2, none⟩ = some (.slice q2 m2 d2) ∧ W.cell? ⟨b, o + j * 4 + 3, none⟩ = some (.slice a2 k2 e2))) (by kernel_rfl) ?_ (fun hHeld => ?_)
                · (try dsimp only)
                  exact ⟨keepB BA.out (grown_drew _ none), (grown_drew _ none).cell Y0.out (by simp), (grown_drew _ none).cell Y1.out (by simp), (grown_drew _ none).cell Y2.out (by simp), (grown_drew _ none).cell Y3.out (by simp)⟩
                have hgg := grown_drew w2 none
                generalize w2.drew = wd at *
                refine wpAnyH_take (i := 0) (oi := Oper.mk _ _ _ _ _ _) (v := ?_) rfl (by kernel_rfl) (by kernel_rfl) (by kernel_rfl) (fun _ _ _ h => h) (Or.inl ⟨by kernel_rfl, ?_⟩) hHeld ?_
                rotate_left 1
                · intro W hSw
                  (try dsimp only at hSw)
                  obtain ⟨hb, h0, h1, h2, h3⟩ := hSw
                  obtain ⟨j0, j1, j2, j3⟩ := box4p hb
                  go_simp
                  (try (with_reducible rfl))
                (try simp only [Act.put, List.setIfInBounds_toArray, List.set_cons_zero, List.set_cons_succ])
                refine wpAnyH_take (i := 1) (oi := Oper.mk _ _ _ _ _ _) (v := ?_) rfl (by kernel_rfl) (by kernel_rfl) (by kernel_rfl) (fun _ _ _ h => h) (Or.inl ⟨by kernel_rfl, ?_⟩) hHeld ?_
                rotate_left 1
                · intro W hSw
                  (try dsimp only at hSw)
                  obtain ⟨hb, h0, h1, h2, h3⟩ := hSw
                  obtain ⟨j0, j1, j2, j3⟩ := box4p hb
                  go_simp
                  (try (with_reducible rfl))
                (try simp only [Act.put, List.setIfInBounds_toArray, List.set_cons_zero, List.set_cons_succ])
                refine wpAnyH_take (i := 2) (oi := Oper.mk _ _ _ _ _ _) (v := ?_) rfl (by kernel_rfl) (by kernel_rfl) (by kernel_rfl) (fun _ _ _ h => h) (Or.inl ⟨by kernel_rfl, ?_⟩) hHeld ?_
                rotate_left 1
                · intro W hSw
                  (try dsimp only at hSw)
                  obtain ⟨hb, h0, h1, h2, h3⟩ := hSw
                  obtain ⟨j0, j1, j2, j3⟩ := box4p hb
                  go_simp
                  (try (with_reducible rfl))
                (try simp only [Act.put, List.setIfInBounds_toArray, List.set_cons_zero, List.set_cons_succ])
                refine wpAnyH_take (i := 3) (oi := Oper.mk _ _ _ _ _ _) (v := ?_) rfl (by kernel_rfl) (by kernel_rfl) (by kernel_rfl) (fun _ _ _ h => h) (Or.inl ⟨by kernel_rfl, ?_⟩) hHeld ?_
                rotate_left 1
                · intro W hSw
                  (try dsimp only at hSw)
                  obtain ⟨hb, h0, h1, h2, h3⟩ := hSw
                  obtain ⟨j0, j1, j2, j3⟩ := box4p hb
                  go_simp
                  (try (with_reducible rfl))
                (try simp only [Act.put, List.setIfInBounds_toArray, List.set_cons_zero, List.set_cons_succ])
                refine wpAnyH_take (i := 4) (oi := Oper.mk _ _ _ _ _ _) (v := ?_) rfl (by kernel_rfl) (by kernel_rfl) (by kernel_rfl) (fun _ _ _ h => h) (Or.inl ⟨by kernel_rfl, ?_⟩) hHeld ?_
                rotate_left 1
                · intro W hSw
                  (try dsimp only at hSw)
                  obtain ⟨hb, h0, h1, h2, h3⟩ := hSw
                  obtain ⟨j0, j1, j2, j3⟩ := box4p hb
                  go_simp
                  (try (with_reducible rfl))
                (try simp only [Act.put, List.setIfInBounds_toArray, List.set_cons_zero, List.set_cons_succ])
                refine wpAnyH_take (i := 5) (oi := Oper.mk _ _ _ _ _ _) (v := ?_) rfl (by kernel_rfl) (by kernel_rfl) (by kernel_rfl) (fun _ _ _ h => h) (Or.inl ⟨by kernel_rfl, ?_⟩) hHeld ?_
                rotate_left 1
                · intro W hSw
                  (try dsimp only at hSw)
                  obtain ⟨hb, h0, h1, h2, h3⟩ := hSw
                  obtain ⟨j0, j1, j2, j3⟩ := box4p hb
                  go_simp
                  (try (with_reducible rfl))
                (try simp only [Act.put, List.setIfInBounds_toArray, List.set_cons_zero, List.set_cons_succ])
                refine wpAnyH_take (i := 6) (oi := Oper.mk _ _ _ _ _ _) (v := ?_) rfl (by kernel_rfl) (by kernel_rfl) (by kernel_rfl) (fun _ _ _ h => h) (Or.inl ⟨by kernel_rfl, ?_⟩) hHeld ?_
                rotate_left 1
                · intro W hSw
                  (try dsimp only at hSw)
                  obtain ⟨hb, h0, h1, h2, h3⟩ := hSw
                  obtain ⟨j0, j1, j2, j3⟩ := box4p hb
                  go_simp
                  (try (with_reducible rfl))
                (try simp only [Act.put, List.setIfInBounds_toArray, List.set_cons_zero, List.set_cons_succ])
                refine wpAnyH_take (i := 7) (oi := Oper.mk _ _ _ _ _ _) (v := ?_) rfl (by kernel_rfl) (by kernel_rfl) (by kernel_rfl) (fun _ _ _ h => h) (Or.inl ⟨by kernel_rfl, ?_⟩) hHeld ?_
                rotate_left 1
                · intro W hSw
                  (try dsimp only at hSw)
                  obtain ⟨hb, h0, h1, h2, h3⟩ := hSw
                  obtain ⟨j0, j1, j2, j3⟩ := box4p hb
                  go_simp
                  (try (with_reducible rfl))
                (try simp only [Act.put, List.setIfInBounds_toArray, List.set_cons_zero, List.set_cons_succ])
                refine wpAnyH_take (i := 8) (oi := Oper.mk _ _ _ _ _ _) (v := ?_) rfl (by kernel_rfl) (by kernel_rfl) (by kernel_rfl) (fun _ _ _ h => h) (Or.inl ⟨by kernel_rfl, ?_⟩) hHeld ?_
                rotate_left 1
                · intro W hSw
                  (try dsimp only at hSw)
                  obtain ⟨hb, h0, h1, h2, h3⟩ := hSw
                  obtain ⟨j0, j1, j2, j3⟩ := box4p hb
                  go_simp
                  (try (with_reducible rfl))
                (try simp only [Act.put, List.setIfInBounds_toArray, List.set_cons_zero, List.set_cons_succ])
                refine wpAnyH_ready (rs := [9]) (by kernel_rfl) (by simp) ?_
                refine AllReadyH.cons (o := Oper.mk _ _ _ _ _ _) rfl (fun K hK => ?_) AllReadyH.nil
                (try rw [if_pos (by kernel_rfl)])
                go_simp
                go_at_call 65
                refine (HDS.out _ hgg).mono ?_
                rintro e wy1 ⟨rfl, hgS⟩
                replace hgg := grown_trans hgg hgS
                refine hK.out _ _ ?_ (fun hNew => ?_)
                · have hH := hHeld
                  (try dsimp only at hH)
                  (try dsimp only)
                  first | with_reducible exact hH | exact ⟨keepB hH.1 hgS, hgS.cell hH.2.1 (by simp), hgS.cell hH.2.2.1 (by simp), hgS.cell hH.2.2.2.1 (by simp), hgS.cell hH.2.2.2.2 (by simp)⟩
                clear hK K hHeld
                have hHeld := hNew
                clear hNew
                (try simp only [Act.put, List.setIfInBounds_toArray, List.set_cons_zero, List.set_cons_succ])
                clear hgS
                refine wpAnyH_take (i := 10) (oi := Oper.mk _ _ _ _ _ _) (v := ?_) rfl (by kernel_rfl) (by kernel_rfl) (by kernel_rfl) (fun _ _ _ h => h) (Or.inl ⟨by kernel_rfl, ?_⟩) hHeld ?_
                rotate_left 1
                · intro W hSw
                  (try dsimp only at hSw)
                  obtain ⟨hb, h0, h1, h2, h3⟩ := hSw
                  obtain ⟨j0, j1, j2, j3⟩ := box4p hb
                  go_simp
                  (try (with_reducible rfl))
                (try simp only [Act.put, List.setIfInBounds_toArray, List.set_cons_zero, List.set_cons_succ])
                refine wpAnyH_take (i := 11) (oi := Oper.mk _ _ _ _ _ _) (v := ?_) rfl (by kernel_rfl) (by kernel_rfl) (by kernel_rfl) (fun _ _ _ h => h) (Or.inl ⟨by kernel_rfl, ?_⟩) hHeld ?_
                rotate_left 1
                · intro W hSw
                  (try dsimp only at hSw)
                  obtain ⟨hb, h0, h1, h2, h3⟩ := hSw
                  obtain ⟨j0, j1, j2, j3⟩ := box4p hb
                  go_simp
                  (try (with_reducible rfl))
                (try simp only [Act.put, List.setIfInBounds_toArray, List.set_cons_zero, List.set_cons_succ])
                refine wpAnyH_done (by kernel_rfl) ?_ _
                refine NoPanic.normal ?_
                clear hHeld
                go_wp2_with fail
                go_ret
                exact ⟨by (rw [HF.out (HLL.out.1 (by omega))]; first | done | rfl), grown_trans HG.out hgg⟩
              · have hq : qb = true := by rw [hqb]; exact decide_eq_true (by omega)
                subst hq
                clear hqb
                refine wp_region_noPanic ?_
                refine wp_region_held_drew (S := (fun W => W.heap[b1]? = some (.cells #[.bool g, .slice p1 n1 c1, .slice q1 m1 d1, .slice a k e] 33 (0, 0)) ∧ W.cell? ⟨b, o + j * 4, none⟩ = some (.bool g2) ∧ W.cell? ⟨b, o + j * 4 + 1, none⟩ = some (.slice p2 n2 c2) ∧ W.cell? ⟨b, o + j * 4 + 2, none⟩ = some (.slice q2 m2 d2) ∧ W.cell? ⟨b, o + j * 4 + 3, none⟩ = some (.slice a2 k2 e2))) (by kernel_rfl) ?_ (fun hHeld => ?_)
                · (try dsimp only)
                  exact ⟨keepB BA.out (grown_drew _ none), (grown_drew _ none).cell Y0.out (by simp), (grown_drew _ none).cell Y1.out (by simp), (grown_drew _ none).cell Y2.out (by simp), (grown_drew _ none).cell Y3.out (by simp)⟩
                have hgg := grown_drew w2 none
                generalize w2.drew = wd at *
                refine wpAnyH_take (i := 0) (oi := Oper.mk _ _ _ _ _ _) (v := ?_) rfl (by kernel_rfl) (by kernel_rfl) (by kernel_rfl) (fun _ _ _ h => h) (Or.inl ⟨by kernel_rfl, ?_⟩) hHeld ?_
                rotate_left 1
                · intro W hSw
                  (try dsimp only at hSw)
                  obtain ⟨hb, h0, h1, h2, h3⟩ := hSw
                  obtain ⟨j0, j1, j2, j3⟩ := box4p hb
                  go_simp
                  (try (with_reducible rfl))
                (try simp only [Act.put, List.setIfInBounds_toArray, List.set_cons_zero, List.set_cons_succ])
                refine wpAnyH_take (i := 1) (oi := Oper.mk _ _ _ _ _ _) (v := ?_) rfl (by kernel_rfl) (by kernel_rfl) (by kernel_rfl) (fun _ _ _ h => h) (Or.inl ⟨by kernel_rfl, ?_⟩) hHeld ?_
                rotate_left 1
                · intro W hSw
                  (try dsimp only at hSw)
                  obtain ⟨hb, h0, h1, h2, h3⟩ := hSw
                  obtain ⟨j0, j1, j2, j3⟩ := box4p hb
                  go_simp
                  (try (with_reducible rfl))
                (try simp only [Act.put, List.setIfInBounds_toArray, List.set_cons_zero, List.set_cons_succ])
                refine wpAnyH_take (i := 2) (oi := Oper.mk _ _ _ _ _ _) (v := ?_) rfl (by kernel_rfl) (by kernel_rfl) (by kernel_rfl) (fun _ _ _ h => h) (Or.inl ⟨by kernel_rfl, ?_⟩) hHeld ?_
                rotate_left 1
                · intro W hSw
                  (try dsimp only at hSw)
                  obtain ⟨hb, h0, h1, h2, h3⟩ := hSw
                  obtain ⟨j0, j1, j2, j3⟩ := box4p hb
                  go_simp
                  (try (with_reducible rfl))
                (try simp only [Act.put, List.setIfInBounds_toArray, List.set_cons_zero, List.set_cons_succ])
                refine wpAnyH_take (i := 3) (oi := Oper.mk _ _ _ _ _ _) (v := ?_) rfl (by kernel_rfl) (by kernel_rfl) (by kernel_rfl) (fun _ _ _ h => h) (Or.inl ⟨by kernel_rfl, ?_⟩) hHeld ?_
                rotate_left 1
                · intro W hSw
                  (try dsimp only at hSw)
                  obtain ⟨hb, h0, h1, h2, h3⟩ := hSw
                  obtain ⟨j0, j1, j2, j3⟩ := box4p hb
                  go_simp
                  (try (with_reducible rfl))
                (try simp only [Act.put, List.setIfInBounds_toArray, List.set_cons_zero, List.set_cons_succ])
                refine wpAnyH_take (i := 4) (oi := Oper.mk _ _ _ _ _ _) (v := ?_) rfl (by kernel_rfl) (by kernel_rfl) (by kernel_rfl) (fun _ _ _ h => h) (Or.inl ⟨by kernel_rfl, ?_⟩) hHeld ?_
                rotate_left 1
                · intro W hSw
                  (try dsimp only at hSw)
                  obtain ⟨hb, h0, h1, h2, h3⟩ := hSw
                  obtain ⟨j0, j1, j2, j3⟩ := box4p hb
                  go_simp
                  (try (with_reducible rfl))
                (try simp only [Act.put, List.setIfInBounds_toArray, List.set_cons_zero, List.set_cons_succ])
                refine wpAnyH_take (i := 5) (oi := Oper.mk _ _ _ _ _ _) (v := ?_) rfl (by kernel_rfl) (by kernel_rfl) (by kernel_rfl) (fun _ _ _ h => h) (Or.inl ⟨by kernel_rfl, ?_⟩) hHeld ?_
                rotate_left 1
                · intro W hSw
                  (try dsimp only at hSw)
                  obtain ⟨hb, h0, h1, h2, h3⟩ := hSw
                  obtain ⟨j0, j1, j2, j3⟩ := box4p hb
                  go_simp
                  (try (with_reducible rfl))
                (try simp only [Act.put, List.setIfInBounds_toArray, List.set_cons_zero, List.set_cons_succ])
                refine wpAnyH_take (i := 6) (oi := Oper.mk _ _ _ _ _ _) (v := ?_) rfl (by kernel_rfl) (by kernel_rfl) (by kernel_rfl) (fun _ _ _ h => h) (Or.inl ⟨by kernel_rfl, ?_⟩) hHeld ?_
                rotate_left 1
                · intro W hSw
                  (try dsimp only at hSw)
                  obtain ⟨hb, h0, h1, h2, h3⟩ := hSw
                  obtain ⟨j0, j1, j2, j3⟩ := box4p hb
                  go_simp
                  (try (with_reducible rfl))
                (try simp only [Act.put, List.setIfInBounds_toArray, List.set_cons_zero, List.set_cons_succ])
                refine wpAnyH_take (i := 7) (oi := Oper.mk _ _ _ _ _ _) (v := ?_) rfl (by kernel_rfl) (by kernel_rfl) (by kernel_rfl) (fun _ _ _ h => h) (Or.inl ⟨by kernel_rfl, ?_⟩) hHeld ?_
                rotate_left 1
                · intro W hSw
                  (try dsimp only at hSw)
                  obtain ⟨hb, h0, h1, h2, h3⟩ := hSw
                  obtain ⟨j0, j1, j2, j3⟩ := box4p hb
                  go_simp
                  (try (with_reducible rfl))
                (try simp only [Act.put, List.setIfInBounds_toArray, List.set_cons_zero, List.set_cons_succ])
                refine wpAnyH_take (i := 8) (oi := Oper.mk _ _ _ _ _ _) (v := ?_) rfl (by kernel_rfl) (by kernel_rfl) (by kernel_rfl) (fun _ _ _ h => h) (Or.inl ⟨by kernel_rfl, ?_⟩) hHeld ?_
                rotate_left 1
                · intro W hSw
                  (try dsimp only at hSw)
                  obtain ⟨hb, h0, h1, h2, h3⟩ := hSw
                  obtain ⟨j0, j1, j2, j3⟩ := box4p hb
                  go_simp
                  (try (with_reducible rfl))
                (try simp only [Act.put, List.setIfInBounds_toArray, List.set_cons_zero, List.set_cons_succ])
                refine wpAnyH_ready (rs := [9]) (by kernel_rfl) (by simp) ?_
                refine AllReadyH.cons (o := Oper.mk _ _ _ _ _ _) rfl (fun K hK => ?_) AllReadyH.nil
                (try rw [if_pos (by kernel_rfl)])
                go_simp
                go_at_call 65
                refine (HDS.out _ hgg).mono ?_
                rintro e wy1 ⟨rfl, hgS⟩
                replace hgg := grown_trans hgg hgS
                refine hK.out _ _ ?_ (fun hNew => ?_)
                · have hH := hHeld
                  (try dsimp only at hH)
                  (try dsimp only)
                  first | with_reducible exact hH | exact ⟨keepB hH.1 hgS, hgS.cell hH.2.1 (by simp), hgS.cell hH.2.2.1 (by simp), hgS.cell hH.2.2.2.1 (by simp), hgS.cell hH.2.2.2.2 (by simp)⟩
                clear hK K hHeld
                have hHeld := hNew
                clear hNew
                (try simp only [Act.put, List.setIfInBounds_toArray, List.set_cons_zero, List.set_cons_succ])
                clear hgS
                refine wpAnyH_take (i := 10) (oi := Oper.mk _ _ _ _ _ _) (v := ?_) rfl (by kernel_rfl) (by kernel_rfl) (by kernel_rfl) (fun _ _ _ h => h) (Or.inl ⟨by kernel_rfl, ?_⟩) hHeld ?_
                rotate_left 1
                · intro W hSw
                  (try dsimp only at hSw)
                  obtain ⟨hb, h0, h1, h2, h3⟩ := hSw
                  obtain ⟨j0, j1, j2, j3⟩ := box4p hb
                  go_simp
                  (try (with_reducible rfl))
                (try simp only [Act.put, List.setIfInBounds_toArray, List.set_cons_zero, List.set_cons_succ])
                refine wpAnyH_take (i := 11) (oi := Oper.mk _ _ _ _ _ _) (v := ?_) rfl (by kernel_rfl) (by kernel_rfl) (by kernel_rfl) (fun _ _ _ h => h) (Or.inl ⟨by kernel_rfl, ?_⟩) hHeld ?_
                rotate_left 1
                · intro W hSw
                  (try dsimp only at hSw)
                  obtain ⟨hb, h0, h1, h2, h3⟩ := hSw
                  obtain ⟨j0, j1, j2, j3⟩ := box4p hb
                  go_simp
                  (try (with_reducible rfl))
                (try simp only [Act.put, List.setIfInBounds_toArray, List.set_cons_zero, List.set_cons_succ])
                refine wpAnyH_done (by kernel_rfl) ?_ _
                refine NoPanic.normal ?_
                clear hHeld
                go_wp2_with fail
                refine ⟨⟨j + 1 + 1, by omega, by go_num, hid (grown_trans HG.out hgg), hid fun j' hj => ?_⟩, by simp [intOf]; omega⟩
                by_cases e : j' = j + 1
                · subst e; exact HLL.out.2 (by omega)
                · exact HS.out j' (by omega)
    · obtain rfl : i = n := by omega
      go_wp2_with fail
      go_ret
      have : goodP R P = true := decide_eq_true fun j hj => HS.out j (by have := HL.out; omega)
      exact ⟨by (rw [this]; first | done | rfl), HG.out⟩
end Go.Proofs.YtceoegmflbgckaaGreatDoor
