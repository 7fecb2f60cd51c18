/-
  ScW, in one text.
-/
import Derived.Test.YtiaonbofkgkdhaaGreatDoorMrD

set_option linter.unusedVariables false
set_option linter.unusedSimpArgs false
namespace Go.Proofs.YtiaonbofkgkdhaaGreatDoor
open Go.RowKit _root_.Nm Ax Lx
/-- each node has as many arguments as its kind has parameters; and its name, if it stands for one, is a name -/
def WfT : Nat → Tr → Prop
  | 0, _ => False
  | m + 1, .node h l => l.length = (prm h.k).length ∧ (h.k = 1 → isNm h.nm.data.toList = true) ∧ (h.k ≠ 1 → h.nm.data.toList = []) ∧ ∀ i (hi : i < l.length), WfT m l[i]
theorem scan_zero {X : Nat → Int} : ∀ {f k : Nat}, scan X k f = 0 → ∀ i, k ≤ i → i < k + f → X i = 0
  | 0, k, _, i, h1, h2 => by omega
  | f + 1, k, h, i, h1, h2 => by
    unfold scan at h
    by_cases h0 : X k = 0
    · rw [if_pos h0] at h
      by_cases hi : i = k
      · rw [hi]; exact h0
      · exact scan_zero h i (by omega) (by omega)
    · rw [if_neg h0] at h
      exact absurd h h0
/-- checkTree and check answer alike, and 0 only for what is well formed -/
def ChkOkW (w : World) (cs : List Value) (m : Nat) (t : Tr) : Prop := ∀ s : Int, 0 ≤ s → s ≤ 4 → ∃ x : Int, (x = 0 → WfT m t) ∧
  (∀ W, w.grownBy W none → Calls Tryz.prog 60 #[.agg cs.toArray, .int .i64 s] W fun e w' => e = .returned (.int .i64 x) ∧ W.grownBy w' none) ∧
  (∀ W, w.grownBy W none → Calls Tryz.prog 66 #[.agg cs.toArray, .int .i64 s] W fun e w' => e = .returned (.int .i64 x) ∧ W.grownBy w' none)
theorem chk_bothW : ∀ (m : Nat) (cs : List Value) (t : Tr) (w : World), Tb w → ERd w m cs t → DgF m t → szF m t ≤ 1048576 → ChkOkW w cs m t
  | 0, _, _, _, _, h, _, _ => h.elim
  | m + 1, cs, .node h l, w, Tq, hE, hD, hsz => by
    intro s hs0 hs4
    obtain ⟨e1, e2, e3, p1, n1, c1, p2, n2, c2, p3, n3, c3, e7, rfl⟩ := hE.shape
    have hlen := sz_len hE
    obtain ⟨⟨r1, r2, r3, r7⟩, hn, hd, hA, hnm⟩ := ARd.of hE
    obtain ⟨⟨hla, hca, hma⟩, _⟩ := id hA
    have hln := hn.len
    have hld := hd.len
    obtain ⟨R, hR⟩ := ratOk Tq e1 e3 hn hD.1.1 hd hD.1.2 (by omega) (by omega)
    have hch : ∀ i (hi : i < n3), ∃ ci, ArgAt w p3 i ci ∧ ChkOkW w ci m (l.getD i zeroT) := by
      intro i hi
      obtain ⟨b, o, x1, x2, x3, q1, m1, d1, q2, m2, d2, q3, m3, d3, x7, h1, hE2, a0, a1, a2, a3, a4, a5, a6⟩ := hA.at (i := i) (by omega)
      refine ⟨_, ⟨b, o, x1, x2, x3, q1, m1, d1, q2, m2, d2, q3, m3, d3, x7, h1, rfl, a0, a1, a2, a3, a4, a5, a6⟩, (show l.getD i zeroT = l[i] from by rw [List.getD_eq_getElem?_getD, List.getElem?_eq_getElem (by omega)]; rfl) ▸ chk_bothW m _ _ w Tq hE2 (hD.2 i (by omega)) ?_⟩
      have := sz_child m h l (i := i) (by omega)
      omega
    have hCh : ∃ C : Nat → List Value, ∀ i (hi : i < n3), ArgAt w p3 i (C i) ∧ ChkOkW w (C i) m (l.getD i zeroT) :=
      ⟨fun i => if hi : i < n3 then Classical.choose (hch i hi) else [], fun i hi => by
        dsimp only
        rw [dif_pos hi]
        exact Classical.choose_spec (hch i hi)⟩
    obtain ⟨C, hC⟩ := hCh
    have hXe : ∀ i (hi : i < n3 ∧ i < (prm e1).length), ∃ x : Int, (x = 0 → WfT m (l.getD i zeroT)) ∧
        (∀ W, w.grownBy W none → Calls Tryz.prog 60 #[.agg (C i).toArray, .int .i64 ((prm e1)[i]'hi.2 : Nat)] W fun e w' => e = .returned (.int .i64 x) ∧ W.grownBy w' none) ∧
        (∀ W, w.grownBy W none → Calls Tryz.prog 66 #[.agg (C i).toArray, .int .i64 ((prm e1)[i]'hi.2 : Nat)] W fun e w' => e = .returned (.int .i64 x) ∧ W.grownBy w' none) := fun i hi => (hC i hi.1).2 _ (by omega) (by have := prm_sorts e1 i hi.2; omega)
    obtain ⟨X, hX⟩ : ∃ X : Nat → Int, ∀ i (hi : i < n3 ∧ i < (prm e1).length), (X i = 0 → WfT m (l.getD i zeroT)) ∧
        (∀ W, w.grownBy W none → Calls Tryz.prog 60 #[.agg (C i).toArray, .int .i64 ((prm e1)[i]'hi.2 : Nat)] W fun e w' => e = .returned (.int .i64 (X i)) ∧ W.grownBy w' none) ∧
        (∀ W, w.grownBy W none → Calls Tryz.prog 66 #[.agg (C i).toArray, .int .i64 ((prm e1)[i]'hi.2 : Nat)] W fun e w' => e = .returned (.int .i64 (X i)) ∧ W.grownBy w' none) :=
      ⟨fun i => if hi : i < n3 ∧ i < (prm e1).length then Classical.choose (hXe i hi) else 0, fun i hi => by
        dsimp only
        rw [dif_pos hi]
        exact Classical.choose_spec (hXe i hi)⟩
    refine ⟨if topE e1 s e2.data.toList n3 R = 0 then scan X 0 n3 else topE e1 s e2.data.toList n3 R, fun h0 => ?_, fun W hW => ?_, fun W hW => ?_⟩
    · by_cases ht : topE e1 s e2.data.toList n3 R = 0
      · rw [if_pos ht] at h0
        obtain ⟨_, z1, z2, z3, _⟩ := topE_zero ht
        refine ⟨by rw [hla, z3, r1], by rw [← r1, ← r2]; exact z1, by rw [← r1, ← r2]; exact z2, fun i hi => ?_⟩
        have := (hX i ⟨by omega, by omega⟩).1 (scan_zero h0 i (by omega) (by omega))
        rwa [List.getD_eq_getElem?_getD, List.getElem?_eq_getElem hi] at this
      · rw [if_neg ht] at h0
        exact absurd h0 ht
    · exact checkTree_n e1 e2 e3 p1 n1 c1 p2 n2 c2 p3 n3 c3 e7 s R W (hR.keep hW) hnm (by omega) ⟨hca, hma⟩ C X (fun i hi => (hC i hi).1.keep hW) (fun i hi hp W' hW' => (hX i ⟨hi, hp⟩).2.1 W' (grown_trans hW hW')) _ rfl
    · by_cases h0 : topE e1 s e2.data.toList n3 R = 0
      · rw [if_pos h0]
        exact check_good (m + 1) h l e1 e2 e3 p1 n1 c1 p2 n2 c2 p3 n3 c3 e7 s ⟨hs0, hs4⟩ R W (hE.keep hW) r1.symm (hR.keep hW) hnm (by omega) ⟨hca, hma⟩ h0 C X (fun i hi => (hC i hi).1.keep hW) (fun i hi hp W' hW' => (hX i ⟨hi, hp⟩).2.2 W' (grown_trans hW hW')) _ rfl
      · rw [if_neg h0]
        exact check_bad (m + 1) h l e1 e2 e3 p1 n1 c1 p2 n2 c2 p3 n3 c3 e7 s ⟨hs0, hs4⟩ R W (hE.keep hW) r1.symm (hR.keep hW) hnm (by omega) h0
set_option maxHeartbeats 8000000 in
set_option maxRecDepth 100000 in
theorem check_bothW (m : Nat) (cs : List Value) (t : Tr) (s : Int) (w : World) (Tq : Tb w) (hE : ERd w m cs t) (hD : DgF m t) (hsz : szF m t ≤ 1048576) : ∃ x : Int, (x = 0 → WfT m t) ∧
    (∀ W, w.grownBy W none → Calls Tryz.prog 30 #[.agg cs.toArray, .int .i64 s] W fun e w' => e = .returned (.int .i64 x) ∧ W.grownBy w' none) ∧
    (∀ W, w.grownBy W none → Calls Tryz.prog 33 #[.agg cs.toArray, .int .i64 s] W fun e w' => e = .returned (.int .i64 x) ∧ W.grownBy w' none) := by
  obtain ⟨e1, e2, e3, p1, n1, c1, p2, n2, c2, p3, n3, c3, e7, rfl⟩ := hE.shape
  have hds := dN_sz m t
  have HDe := hid fun w' (hg : w.grownBy w' none) (b : Bool) (hb : b = true ↔ 20 < dN m t) => deeper_any m _ t 20 b w' (by omega) (hE.keep hg) hb
  have HRD := hid fun w' (hg : w.grownBy w' none) => rdepth_any m _ t w' (hE.keep hg)
  rw [depF_dN m t (by omega)] at HRD
  have HCK := hid (chk_bothW m _ t w Tq hE hD hsz)
  clear hE hD hsz Tq hds
  generalize dN m t = dd at *
  by_cases hr : s < 1 ∨ 4 < s
  · refine ⟨1, fun h => by omega, fun W hW => ?_, fun W hW => ?_⟩
    all_goals
      clear HDe HRD HCK
      have hz : (s < 1) = True ∨ ((s < 1) = False ∧ (4 < s) = True) := by
        rcases hr with h | h
        · exact .inl (by simp [h])
        · by_cases h1 : s < 1
          · exact .inl (by simp [h1])
          · exact .inr ⟨by simp [h1], by simp [h]⟩
    · have hW1 := World.grownBy_alloc W (.cells #[.int .i64 e1, .string e2, .bool e3, .slice p1 n1 c1, .slice p2 n2 c2, .slice p3 n3 c3, .int .i64 e7] 43 (0, 0)) none
      by_cases h1 : s < 1
      · clear hz hr
        go_enter Tryz.func30, Tryz.ntmps30
        go_wp2_with fail
        go_ret
        exact ⟨rfl, hW1⟩
      · have h2 : 4 < s := by omega
        clear hz hr
        go_enter Tryz.func30, Tryz.ntmps30
        go_wp2_with fail
        go_ret
        exact ⟨rfl, hW1⟩
    · have hW1 := World.grownBy_alloc W (.cells #[.int .i64 e1, .string e2, .bool e3, .slice p1 n1 c1, .slice p2 n2 c2, .slice p3 n3 c3, .int .i64 e7] 43 (0, 0)) none
      by_cases h1 : s < 1
      · clear hz hr
        go_enter Tryz.func33, Tryz.ntmps33
        go_wp2_with fail
        go_ret
        exact ⟨rfl, hW1⟩
      · have h2 : 4 < s := by omega
        clear hz hr
        go_enter Tryz.func33, Tryz.ntmps33
        go_wp2_with fail
        go_ret
        exact ⟨rfl, hW1⟩
  · have h1 : ¬ s < 1 := by omega
    have h2 : ¬ 4 < s := by omega
    obtain ⟨x, X0, X1, X2⟩ := HCK.out s (by omega) (by omega)
    have HX1 := hid X1
    have HX2 := hid X2
    clear X1 X2 HCK hr
    by_cases hdp : 20 < dd
    · refine ⟨4, fun h => by omega, fun W hW => ?_, fun W hW => ?_⟩
      · have HD1 := hid fun w' (hg : W.grownBy w' none) => HDe.out w' (grown_trans hW hg) true (by simp [hdp])
        clear HDe HRD HX1 HX2
        have hW1 := World.grownBy_alloc W (.cells #[.int .i64 e1, .string e2, .bool e3, .slice p1 n1 c1, .slice p2 n2 c2, .slice p3 n3 c3, .int .i64 e7] 43 (0, 0)) none
        obtain ⟨⟨k0, k1, k2, k3, k4, k5, k6⟩, -⟩ := box7 (blk0 W (.cells #[.int .i64 e1, .string e2, .bool e3, .slice p1 n1 c1, .slice p2 n2 c2, .slice p3 n3 c3, .int .i64 e7] 43 (0, 0)))
        go_enter Tryz.func30, Tryz.ntmps30
        go_upto_region 1 with fail
        generalize (W.alloc _) = w0 at *
        go_wp2_with (go_at_call 59; refine (HD1.out _ hW1).mono ?_; rintro e w1 ⟨rfl, hg⟩; replace hW1 := grown_trans hW1 hg)
        go_ret
        exact ⟨rfl, hW1⟩
      · have HD1 := hid fun w' (hg : W.grownBy w' none) => HRD.out w' (grown_trans hW hg)
        clear HDe HRD HX1 HX2
        have hW1 := World.grownBy_alloc W (.cells #[.int .i64 e1, .string e2, .bool e3, .slice p1 n1 c1, .slice p2 n2 c2, .slice p3 n3 c3, .int .i64 e7] 43 (0, 0)) none
        obtain ⟨⟨k0, k1, k2, k3, k4, k5, k6⟩, -⟩ := box7 (blk0 W (.cells #[.int .i64 e1, .string e2, .bool e3, .slice p1 n1 c1, .slice p2 n2 c2, .slice p3 n3 c3, .int .i64 e7] 43 (0, 0)))
        have hz : (20 : Int) < (dd : Int) := by omega
        go_enter Tryz.func33, Tryz.ntmps33
        go_upto_region 1 with fail
        generalize (W.alloc _) = w0 at *
        go_wp2_with (go_at_call 65; refine (HD1.out _ hW1).mono ?_; rintro e w1 ⟨rfl, hg⟩; replace hW1 := grown_trans hW1 hg)
        go_ret
        exact ⟨rfl, hW1⟩
    · refine ⟨x, X0, fun W hW => ?_, fun W hW => ?_⟩
      · have HD1 := hid fun w' (hg : W.grownBy w' none) => HDe.out w' (grown_trans hW hg) false (by simp; omega)
        have HC1 := hid fun w' (hg : W.grownBy w' none) => HX1.out w' (grown_trans hW hg)
        clear HDe HRD HX1 HX2
        have hW1 := World.grownBy_alloc W (.cells #[.int .i64 e1, .string e2, .bool e3, .slice p1 n1 c1, .slice p2 n2 c2, .slice p3 n3 c3, .int .i64 e7] 43 (0, 0)) none
        obtain ⟨⟨k0, k1, k2, k3, k4, k5, k6⟩, -⟩ := box7 (blk0 W (.cells #[.int .i64 e1, .string e2, .bool e3, .slice p1 n1 c1, .slice p2 n2 c2, .slice p3 n3 c3, .int .i64 e7] 43 (0, 0)))
        go_enter Tryz.func30, Tryz.ntmps30
        go_upto_region 1 with fail
        generalize (W.alloc _) = w0 at *
        go_wp2_with (first | (go_at_call 59; refine (HD1.out _ hW1).mono ?_; rintro e w1 ⟨rfl, hg⟩; replace hW1 := grown_trans hW1 hg; replace k0 := hg.cell k0 (by simp); replace k1 := hg.cell k1 (by simp); replace k2 := hg.cell k2 (by simp); replace k3 := hg.cell k3 (by simp); replace k4 := hg.cell k4 (by simp); replace k5 := hg.cell k5 (by simp); replace k6 := hg.cell k6 (by simp)) | (go_at_call 60; refine (HC1.out _ hW1).mono ?_; rintro e w1 ⟨rfl, hg⟩; replace hW1 := grown_trans hW1 hg))
        go_ret
        exact ⟨rfl, hW1⟩
      · have HD1 := hid fun w' (hg : W.grownBy w' none) => HRD.out w' (grown_trans hW hg)
        have HC1 := hid fun w' (hg : W.grownBy w' none) => HX2.out w' (grown_trans hW hg)
        clear HDe HRD HX1 HX2
        have hW1 := World.grownBy_alloc W (.cells #[.int .i64 e1, .string e2, .bool e3, .slice p1 n1 c1, .slice p2 n2 c2, .slice p3 n3 c3, .int .i64 e7] 43 (0, 0)) none
        obtain ⟨⟨k0, k1, k2, k3, k4, k5, k6⟩, -⟩ := box7 (blk0 W (.cells #[.int .i64 e1, .string e2, .bool e3, .slice p1 n1 c1, .slice p2 n2 c2, .slice p3 n3 c3, .int .i64 e7] 43 (0, 0)))
        have hz : ¬ (20 : Int) < (dd : Int) := by omega
        go_enter Tryz.func33, Tryz.ntmps33
        go_upto_region 1 with fail
        generalize (W.alloc _) = w0 at *
        go_wp2_with (first | (go_at_call 65; refine (HD1.out _ hW1).mono ?_; rintro e w1 ⟨rfl, hg⟩; replace hW1 := grown_trans hW1 hg; replace k0 := hg.cell k0 (by simp); replace k1 := hg.cell k1 (by simp); replace k2 := hg.cell k2 (by simp); replace k3 := hg.cell k3 (by simp); replace k4 := hg.cell k4 (by simp); replace k5 := hg.cell k5 (by simp); replace k6 := hg.cell k6 (by simp)) | (go_at_call 66; refine (HC1.out _ hW1).mono ?_; rintro e w1 ⟨rfl, hg⟩; replace hW1 := grown_trans hW1 hg))
        go_ret
        exact ⟨rfl, hW1⟩
/-- what a right statement is -/
def StR (k : Int) (L : List ByteArray) (m : Nat) (t : Tr) : Prop :=
  (1 ≤ k ∧ k ≤ 5) ∧ cntS k L.length = true ∧ (∀ i (hi : i < L.length), isNm (L[i]).data.toList = true) ∧ (k = 1 → EqP m t zeroT) ∧ (k ≠ 1 → (match t with | .node h _ => h.k ≠ 1) ∧ WfT m t)
theorem stE_zero {k : Int} {n : Nat} {bn z : Bool} {e1 X : Int} (h : stE k n bn z e1 X = 0) : (1 ≤ k ∧ k ≤ 5) ∧ cntS k n = true ∧ bn = true ∧ (k = 1 → z = true) ∧ (k ≠ 1 → e1 ≠ 1 ∧ X = 0) := by
  unfold stE at h
  by_cases h1 : k < 1 ∨ 5 < k
  · rw [if_pos h1] at h; omega
  rw [if_neg h1] at h
  cases h2 : cntS k n
  · rw [if_pos h2] at h; omega
  rw [if_neg (by simp [h2])] at h
  cases bn
  · rw [if_pos rfl] at h; omega
  rw [if_neg (by simp)] at h
  refine ⟨by omega, rfl, rfl, fun hk => ?_, fun hk => ?_⟩
  · rw [if_pos hk] at h
    cases z
    · simp at h
    · rfl
  · rw [if_neg hk] at h
    by_cases h3 : e1 = 1
    · rw [if_pos h3] at h; omega
    · rw [if_neg h3] at h
      exact ⟨h3, h⟩
theorem stmt_bothW (cs : List Value) (k : Int) (L : List ByteArray) (m : Nat) (t : Tr) (w : World) (Tq : Tb w) (hS : StOk w cs k L m t) (hD : DgF m t) (hsz : szF m t ≤ 1048576) : ∃ x : Int, (x = 0 → StR k L m t) ∧
    (∀ W, w.grownBy W none → Calls Tryz.prog 54 #[.agg cs.toArray] W fun e w' => e = .returned (.int .i64 x) ∧ W.grownBy w' none) ∧
    (∀ W, w.grownBy W none → Calls Tryz.prog 57 #[.agg cs.toArray] W fun e w' => e = .returned (.int .i64 x) ∧ W.grownBy w' none) := by
  obtain ⟨⟨pn, nn, cn, ce, o, rfl, hL, hE⟩, hN⟩ := hS
  obtain ⟨e1, e2, e3, p1, n1, c1, p2, n2, c2, p3, n3, c3, e7, rfl⟩ := hE.shape
  obtain ⟨X, X0, X1, X2⟩ := check_bothW m _ t (sortS k) w Tq hE hD hsz
  obtain ⟨bn, hbn⟩ := ex_bool (∀ i (hi : i < L.length), isNm (L[i]).data.toList = true)
  cases m with
  | zero => exact hE.elim
  | succ m =>
  cases t with
  | node h l =>
  obtain ⟨z, hz⟩ := ex_bool (EqP (m + 1) (.node h l) zeroT)
  refine ⟨stE k nn bn z e1 X, fun h0 => ?_, fun W hW => ?_, fun W hW => ?_⟩
  · obtain ⟨y1, y2, y3, y4, y5⟩ := stE_zero h0
    have hl := hL.len
    have he := (ARd.of hE).1.1
    exact ⟨y1, by rw [hl]; exact y2, hbn.1 y3, fun hk => hz.1 (y4 hk), fun hk => ⟨by show h.k ≠ 1; rw [← he]; exact (y5 hk).1, X0 (y5 hk).2⟩⟩
  · exact checkStmt_n k pn nn cn e1 e2 e3 p1 n1 c1 p2 n2 c2 p3 n3 c3 e7 o bn z X W (fun W' hW' => allNames_any pn nn cn L W' (hL.keep (grown_trans hW hW')) hN bn hbn) (fun W' hW' => checkNone_any (m + 1) _ _ z hz W' (hE.keep (grown_trans hW hW'))) (fun W' hW' => X1 W' (grown_trans hW hW'))
  · exact rCheckStmt_n k pn nn cn e1 e2 e3 p1 n1 c1 p2 n2 c2 p3 n3 c3 e7 o bn z X L W (hL.keep hW) hN hbn (fun W' hW' => empty_any e1 e2 e3 p1 n1 c1 p2 n2 c2 p3 n3 c3 e7 z W' (hz.trans (eq_zeroT hE))) (fun W' hW' => X2 W' (grown_trans hW hW'))
end Go.Proofs.YtiaonbofkgkdhaaGreatDoor
