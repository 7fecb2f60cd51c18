/-
  ScW AstO AstX ScM ScA ScB ScC ScD ScE ScF ScG, in one text.
-/
import Derived.Test.YtbioamglnndofaaGreatDoorMrD
import Derived.Test.YtbioamglnndofaaGreatDoorMrA
import Derived.Maps.AppendAt
import Derived.Maps.Own
import Derived.Maps.Views
import Derived.WalkKit
import Derived.Maps.OwnSet
import Derived.Deep.RegionHeld3

set_option linter.unusedVariables false
set_option linter.unusedSimpArgs false
namespace Go.Proofs.YtbioamglnndofaaGreatDoor
open Go.RowKit _root_.Nm Ax Lx
/-- each node has as many arguments as its kind has parameters; and its name, if it stands for one, is a name -/
def WfT : Nat → Tr → Prop
  | 0, _ => False
  | m + 1, .node h l => l.length = (prm h.k).length ∧ (h.k = 1 → isNm h.nm.data.toList = true) ∧ (h.k ≠ 1 → h.nm.data.toList = []) ∧ ∀ i (hi : i < l.length), WfT m l[i]
theorem scan_zero {X : Nat → Int} : ∀ {f k : Nat}, scan X k f = 0 → ∀ i, k ≤ i → i < k + f → X i = 0
  | 0, k, _, i, h1, h2 => by omega
  | f + 1, k, h, i, h1, h2 => by
    unfold scan at h
    by_cases h0 : X k = 0
    · rw [if_pos h0] at h
      by_cases hi : i = k
      · rw [hi]; exact h0
      · exact scan_zero h i (by omega) (by omega)
    · rw [if_neg h0] at h
      exact absurd h h0
/-- checkTree and check answer alike, and 0 only for what is well formed -/
def ChkOkW (w : World) (cs : List Value) (m : Nat) (t : Tr) : Prop := ∀ s : Int, 0 ≤ s → s ≤ 4 → ∃ x : Int, (x = 0 → WfT m t) ∧
  (∀ W, w.grownBy W none → Calls Tryz.prog 75 #[.agg cs.toArray, .int .i64 s] W fun e w' => e = .returned (.int .i64 x) ∧ W.grownBy w' none) ∧
  (∀ W, w.grownBy W none → Calls Tryz.prog 69 #[.agg cs.toArray, .int .i64 s] W fun e w' => e = .returned (.int .i64 x) ∧ W.grownBy w' none)
theorem chk_bothW : ∀ (m : Nat) (cs : List Value) (t : Tr) (w : World), Tb w → ERd w m cs t → DgF m t → szF m t ≤ 1048576 → ChkOkW w cs m t
  | 0, _, _, _, _, h, _, _ => h.elim
  | m + 1, cs, .node h l, w, Tq, hE, hD, hsz => by
    intro s hs0 hs4
    obtain ⟨e1, e2, e3, p1, n1, c1, p2, n2, c2, p3, n3, c3, e7, rfl⟩ := hE.shape
    have hlen := sz_len hE
    obtain ⟨⟨r1, r2, r3, r7⟩, hn, hd, hA, hnm⟩ := ARd.of hE
    obtain ⟨⟨hla, hca, hma⟩, _⟩ := id hA
    have hln := hn.len
    have hld := hd.len
    obtain ⟨R, hR⟩ := ratOk Tq e1 e3 hn hD.1.1 hd hD.1.2 (by omega) (by omega)
    have hch : ∀ i (hi : i < n3), ∃ ci, ArgAt w p3 i ci ∧ ChkOkW w ci m (l.getD i zeroT) := by
      intro i hi
      obtain ⟨b, o, x1, x2, x3, q1, m1, d1, q2, m2, d2, q3, m3, d3, x7, h1, hE2, a0, a1, a2, a3, a4, a5, a6⟩ := hA.at (i := i) (by omega)
      refine ⟨_, ⟨b, o, x1, x2, x3, q1, m1, d1, q2, m2, d2, q3, m3, d3, x7, h1, rfl, a0, a1, a2, a3, a4, a5, a6⟩, (show l.getD i zeroT = l[i] from by rw [List.getD_eq_getElem?_getD, List.getElem?_eq_getElem (by omega)]; rfl) ▸ chk_bothW m _ _ w Tq hE2 (hD.2 i (by omega)) ?_⟩
      have := sz_child m h l (i := i) (by omega)
      omega
    have hCh : ∃ C : Nat → List Value, ∀ i (hi : i < n3), ArgAt w p3 i (C i) ∧ ChkOkW w (C i) m (l.getD i zeroT) :=
      ⟨fun i => if hi : i < n3 then Classical.choose (hch i hi) else [], fun i hi => by
        dsimp only
        rw [dif_pos hi]
        exact Classical.choose_spec (hch i hi)⟩
    obtain ⟨C, hC⟩ := hCh
    have hXe : ∀ i (hi : i < n3 ∧ i < (prm e1).length), ∃ x : Int, (x = 0 → WfT m (l.getD i zeroT)) ∧
        (∀ W, w.grownBy W none → Calls Tryz.prog 75 #[.agg (C i).toArray, .int .i64 ((prm e1)[i]'hi.2 : Nat)] W fun e w' => e = .returned (.int .i64 x) ∧ W.grownBy w' none) ∧
        (∀ W, w.grownBy W none → Calls Tryz.prog 69 #[.agg (C i).toArray, .int .i64 ((prm e1)[i]'hi.2 : Nat)] W fun e w' => e = .returned (.int .i64 x) ∧ W.grownBy w' none) := fun i hi => (hC i hi.1).2 _ (by omega) (by have := prm_sorts e1 i hi.2; omega)
    obtain ⟨X, hX⟩ : ∃ X : Nat → Int, ∀ i (hi : i < n3 ∧ i < (prm e1).length), (X i = 0 → WfT m (l.getD i zeroT)) ∧
        (∀ W, w.grownBy W none → Calls Tryz.prog 75 #[.agg (C i).toArray, .int .i64 ((prm e1)[i]'hi.2 : Nat)] W fun e w' => e = .returned (.int .i64 (X i)) ∧ W.grownBy w' none) ∧
        (∀ W, w.grownBy W none → Calls Tryz.prog 69 #[.agg (C i).toArray, .int .i64 ((prm e1)[i]'hi.2 : Nat)] W fun e w' => e = .returned (.int .i64 (X i)) ∧ W.grownBy w' none) :=
      ⟨fun i => if hi : i < n3 ∧ i < (prm e1).length then Classical.choose (hXe i hi) else 0, fun i hi => by
        dsimp only
        rw [dif_pos hi]
        exact Classical.choose_spec (hXe i hi)⟩
    refine ⟨if topE e1 s e2.data.toList n3 R = 0 then scan X 0 n3 else topE e1 s e2.data.toList n3 R, fun h0 => ?_, fun W hW => ?_, fun W hW => ?_⟩
    · by_cases ht : topE e1 s e2.data.toList n3 R = 0
      · rw [if_pos ht] at h0
        obtain ⟨_, z1, z2, z3, _⟩ := topE_zero ht
        refine ⟨by rw [hla, z3, r1], by rw [← r1, ← r2]; exact z1, by rw [← r1, ← r2]; exact z2, fun i hi => ?_⟩
        have := (hX i ⟨by omega, by omega⟩).1 (scan_zero h0 i (by omega) (by omega))
        rwa [List.getD_eq_getElem?_getD, List.getElem?_eq_getElem hi] at this
      · rw [if_neg ht] at h0
        exact absurd h0 ht
    · exact checkTree_n e1 e2 e3 p1 n1 c1 p2 n2 c2 p3 n3 c3 e7 s R W (hR.keep hW) hnm (by omega) ⟨hca, hma⟩ C X (fun i hi => (hC i hi).1.keep hW) (fun i hi hp W' hW' => (hX i ⟨hi, hp⟩).2.1 W' (grown_trans hW hW')) _ rfl
    · by_cases h0 : topE e1 s e2.data.toList n3 R = 0
      · rw [if_pos h0]
        exact check_good (m + 1) h l e1 e2 e3 p1 n1 c1 p2 n2 c2 p3 n3 c3 e7 s ⟨hs0, hs4⟩ R W (hE.keep hW) r1.symm (hR.keep hW) hnm (by omega) ⟨hca, hma⟩ h0 C X (fun i hi => (hC i hi).1.keep hW) (fun i hi hp W' hW' => (hX i ⟨hi, hp⟩).2.2 W' (grown_trans hW hW')) _ rfl
      · rw [if_neg h0]
        exact check_bad (m + 1) h l e1 e2 e3 p1 n1 c1 p2 n2 c2 p3 n3 c3 e7 s ⟨hs0, hs4⟩ R W (hE.keep hW) r1.symm (hR.keep hW) hnm (by omega) h0
set_option maxHeartbeats 8000000 in
set_option maxRecDepth 100000 in
theorem check_bothW (m : Nat) (cs : List Value) (t : Tr) (s : Int) (w : World) (Tq : Tb w) (hE : ERd w m cs t) (hD : DgF m t) (hsz : szF m t ≤ 1048576) : ∃ x : Int, (x = 0 → WfT m t) ∧
    (∀ W, w.grownBy W none → Calls Tryz.prog 60 #[.agg cs.toArray, .int .i64 s] W fun e w' => e = .returned (.int .i64 x) ∧ W.grownBy w' none) ∧
    (∀ W, w.grownBy W none → Calls Tryz.prog 48 #[.agg cs.toArray, .int .i64 s] W fun e w' => e = .returned (.int .i64 x) ∧ W.grownBy w' none) := by
  obtain ⟨e1, e2, e3, p1, n1, c1, p2, n2, c2, p3, n3, c3, e7, rfl⟩ := hE.shape
  have hds := dN_sz m t
  have HDe := hid fun w' (hg : w.grownBy w' none) (b : Bool) (hb : b = true ↔ 20 < dN m t) => deeper_any m _ t 20 b w' (by omega) (hE.keep hg) hb
  have HRD := hid fun w' (hg : w.grownBy w' none) => rdepth_any m _ t w' (hE.keep hg)
  rw [depF_dN m t (by omega)] at HRD
  have HCK := hid (chk_bothW m _ t w Tq hE hD hsz)
  clear hE hD hsz Tq hds
  generalize dN m t = dd at *
  by_cases hr : s < 1 ∨ 4 < s
  · refine ⟨1, fun h => by omega, fun W hW => ?_, fun W hW => ?_⟩
    all_goals
      clear HDe HRD HCK
      have hz : (s < 1) = True ∨ ((s < 1) = False ∧ (4 < s) = True) := by
        rcases hr with h | h
        · exact .inl (by simp [h])
        · by_cases h1 : s < 1
          · exact .inl (by simp [h1])
          · exact .inr ⟨by simp [h1], by simp [h]⟩
    · have hW1 := World.grownBy_alloc W (.cells #[.int .i64 e1, .string e2, .bool e3, .slice p1 n1 c1, .slice p2 n2 c2, .slice p3 n3 c3, .int .i64 e7] 44 (0, 0)) none
      by_cases h1 : s < 1
      · clear hz hr
        go_enter Tryz.func60, Tryz.ntmps60
        go_wp2_with fail
        go_ret
        exact ⟨rfl, hW1⟩
      · have h2 : 4 < s := by omega
        clear hz hr
        go_enter Tryz.func60, Tryz.ntmps60
        go_wp2_with fail
        go_ret
        exact ⟨rfl, hW1⟩
    · have hW1 := World.grownBy_alloc W (.cells #[.int .i64 e1, .string e2, .bool e3, .slice p1 n1 c1, .slice p2 n2 c2, .slice p3 n3 c3, .int .i64 e7] 44 (0, 0)) none
      by_cases h1 : s < 1
      · clear hz hr
        go_enter Tryz.func48, Tryz.ntmps48
        go_wp2_with fail
        go_ret
        exact ⟨rfl, hW1⟩
      · have h2 : 4 < s := by omega
        clear hz hr
        go_enter Tryz.func48, Tryz.ntmps48
        go_wp2_with fail
        go_ret
        exact ⟨rfl, hW1⟩
  · have h1 : ¬ s < 1 := by omega
    have h2 : ¬ 4 < s := by omega
    obtain ⟨x, X0, X1, X2⟩ := HCK.out s (by omega) (by omega)
    have HX1 := hid X1
    have HX2 := hid X2
    clear X1 X2 HCK hr
    by_cases hdp : 20 < dd
    · refine ⟨4, fun h => by omega, fun W hW => ?_, fun W hW => ?_⟩
      · have HD1 := hid fun w' (hg : W.grownBy w' none) => HDe.out w' (grown_trans hW hg) true (by simp [hdp])
        clear HDe HRD HX1 HX2
        have hW1 := World.grownBy_alloc W (.cells #[.int .i64 e1, .string e2, .bool e3, .slice p1 n1 c1, .slice p2 n2 c2, .slice p3 n3 c3, .int .i64 e7] 44 (0, 0)) none
        obtain ⟨⟨k0, k1, k2, k3, k4, k5, k6⟩, -⟩ := box7 (blk0 W (.cells #[.int .i64 e1, .string e2, .bool e3, .slice p1 n1 c1, .slice p2 n2 c2, .slice p3 n3 c3, .int .i64 e7] 44 (0, 0)))
        go_enter Tryz.func60, Tryz.ntmps60
        go_upto_region 1 with fail
        generalize (W.alloc _) = w0 at *
        go_wp2_with (go_at_call 74; refine (HD1.out _ hW1).mono ?_; rintro e w1 ⟨rfl, hg⟩; replace hW1 := grown_trans hW1 hg)
        go_ret
        exact ⟨rfl, hW1⟩
      · have HD1 := hid fun w' (hg : W.grownBy w' none) => HRD.out w' (grown_trans hW hg)
        clear HDe HRD HX1 HX2
        have hW1 := World.grownBy_alloc W (.cells #[.int .i64 e1, .string e2, .bool e3, .slice p1 n1 c1, .slice p2 n2 c2, .slice p3 n3 c3, .int .i64 e7] 44 (0, 0)) none
        obtain ⟨⟨k0, k1, k2, k3, k4, k5, k6⟩, -⟩ := box7 (blk0 W (.cells #[.int .i64 e1, .string e2, .bool e3, .slice p1 n1 c1, .slice p2 n2 c2, .slice p3 n3 c3, .int .i64 e7] 44 (0, 0)))
        have hz : (20 : Int) < (dd : Int) := by omega
        go_enter Tryz.func48, Tryz.ntmps48
        go_upto_region 1 with fail
        generalize (W.alloc _) = w0 at *
        go_wp2_with (go_at_call 68; refine (HD1.out _ hW1).mono ?_; rintro e w1 ⟨rfl, hg⟩; replace hW1 := grown_trans hW1 hg)
        go_ret
        exact ⟨rfl, hW1⟩
    · refine ⟨x, X0, fun W hW => ?_, fun W hW => ?_⟩
      · have HD1 := hid fun w' (hg : W.grownBy w' none) => HDe.out w' (grown_trans hW hg) false (by simp; omega)
        have HC1 := hid fun w' (hg : W.grownBy w' none) => HX1.out w' (grown_trans hW hg)
        clear HDe HRD HX1 HX2
        have hW1 := World.grownBy_alloc W (.cells #[.int .i64 e1, .string e2, .bool e3, .slice p1 n1 c1, .slice p2 n2 c2, .slice p3 n3 c3, .int .i64 e7] 44 (0, 0)) none
        obtain ⟨⟨k0, k1, k2, k3, k4, k5, k6⟩, -⟩ := box7 (blk0 W (.cells #[.int .i64 e1, .string e2, .bool e3, .slice p1 n1 c1, .slice p2 n2 c2, .slice p3 n3 c3, .int .i64 e7] 44 (0, 0)))
        go_enter Tryz.func60, Tryz.ntmps60
        go_upto_region 1 with fail
        generalize (W.alloc _) = w0 at *
        go_wp2_with (first | (go_at_call 74; refine (HD1.out _ hW1).mono ?_; rintro e w1 ⟨rfl, hg⟩; replace hW1 := grown_trans hW1 hg; replace k0 := hg.cell k0 (by simp); replace k1 := hg.cell k1 (by simp); replace k2 := hg.cell k2 (by simp); replace k3 := hg.cell k3 (by simp); replace k4 := hg.cell k4 (by simp); replace k5 := hg.cell k5 (by simp); replace k6 := hg.cell k6 (by simp)) | (go_at_call 75; refine (HC1.out _ hW1).mono ?_; rintro e w1 ⟨rfl, hg⟩; replace hW1 := grown_trans hW1 hg))
        go_ret
        exact ⟨rfl, hW1⟩
      · have HD1 := hid fun w' (hg : W.grownBy w' none) => HRD.out w' (grown_trans hW hg)
        have HC1 := hid fun w' (hg : W.grownBy w' none) => HX2.out w' (grown_trans hW hg)
        clear HDe HRD HX1 HX2
        have hW1 := World.grownBy_alloc W (.cells #[.int .i64 e1, .string e2, .bool e3, .slice p1 n1 c1, .slice p2 n2 c2, .slice p3 n3 c3, .int .i64 e7] 44 (0, 0)) none
        obtain ⟨⟨k0, k1, k2, k3, k4, k5, k6⟩, -⟩ := box7 (blk0 W (.cells #[.int .i64 e1, .string e2, .bool e3, .slice p1 n1 c1, .slice p2 n2 c2, .slice p3 n3 c3, .int .i64 e7] 44 (0, 0)))
        have hz : ¬ (20 : Int) < (dd : Int) := by omega
        go_enter Tryz.func48, Tryz.ntmps48
        go_upto_region 1 with fail
        generalize (W.alloc _) = w0 at *
        go_wp2_with (first | (go_at_call 68; refine (HD1.out _ hW1).mono ?_; rintro e w1 ⟨rfl, hg⟩; replace hW1 := grown_trans hW1 hg; replace k0 := hg.cell k0 (by simp); replace k1 := hg.cell k1 (by simp); replace k2 := hg.cell k2 (by simp); replace k3 := hg.cell k3 (by simp); replace k4 := hg.cell k4 (by simp); replace k5 := hg.cell k5 (by simp); replace k6 := hg.cell k6 (by simp)) | (go_at_call 69; refine (HC1.out _ hW1).mono ?_; rintro e w1 ⟨rfl, hg⟩; replace hW1 := grown_trans hW1 hg))
        go_ret
        exact ⟨rfl, hW1⟩
/-- what a right statement is -/
def StR (k : Int) (L : List ByteArray) (m : Nat) (t : Tr) : Prop :=
  (1 ≤ k ∧ k ≤ 5) ∧ cntS k L.length = true ∧ (∀ i (hi : i < L.length), isNm (L[i]).data.toList = true) ∧ (k = 1 → EqP m t zeroT) ∧ (k ≠ 1 → (match t with | .node h _ => h.k ≠ 1) ∧ WfT m t)
theorem stE_zero {k : Int} {n : Nat} {bn z : Bool} {e1 X : Int} (h : stE k n bn z e1 X = 0) : (1 ≤ k ∧ k ≤ 5) ∧ cntS k n = true ∧ bn = true ∧ (k = 1 → z = true) ∧ (k ≠ 1 → e1 ≠ 1 ∧ X = 0) := by
  unfold stE at h
  by_cases h1 : k < 1 ∨ 5 < k
  · rw [if_pos h1] at h; omega
  rw [if_neg h1] at h
  cases h2 : cntS k n
  · rw [if_pos h2] at h; omega
  rw [if_neg (by simp [h2])] at h
  cases bn
  · rw [if_pos rfl] at h; omega
  rw [if_neg (by simp)] at h
  refine ⟨by omega, rfl, rfl, fun hk => ?_, fun hk => ?_⟩
  · rw [if_pos hk] at h
    cases z
    · simp at h
    · rfl
  · rw [if_neg hk] at h
    by_cases h3 : e1 = 1
    · rw [if_pos h3] at h; omega
    · rw [if_neg h3] at h
      exact ⟨h3, h⟩
theorem stmt_bothW (cs : List Value) (k : Int) (L : List ByteArray) (m : Nat) (t : Tr) (w : World) (Tq : Tb w) (hS : StOk w cs k L m t) (hD : DgF m t) (hsz : szF m t ≤ 1048576) : ∃ x : Int, (x = 0 → StR k L m t) ∧
    (∀ W, w.grownBy W none → Calls Tryz.prog 43 #[.agg cs.toArray] W fun e w' => e = .returned (.int .i64 x) ∧ W.grownBy w' none) ∧
    (∀ W, w.grownBy W none → Calls Tryz.prog 28 #[.agg cs.toArray] W fun e w' => e = .returned (.int .i64 x) ∧ W.grownBy w' none) := by
  obtain ⟨⟨pn, nn, cn, ce, o, rfl, hL, hE⟩, hN⟩ := hS
  obtain ⟨e1, e2, e3, p1, n1, c1, p2, n2, c2, p3, n3, c3, e7, rfl⟩ := hE.shape
  obtain ⟨X, X0, X1, X2⟩ := check_bothW m _ t (sortS k) w Tq hE hD hsz
  obtain ⟨bn, hbn⟩ := ex_bool (∀ i (hi : i < L.length), isNm (L[i]).data.toList = true)
  cases m with
  | zero => exact hE.elim
  | succ m =>
  cases t with
  | node h l =>
  obtain ⟨z, hz⟩ := ex_bool (EqP (m + 1) (.node h l) zeroT)
  refine ⟨stE k nn bn z e1 X, fun h0 => ?_, fun W hW => ?_, fun W hW => ?_⟩
  · obtain ⟨y1, y2, y3, y4, y5⟩ := stE_zero h0
    have hl := hL.len
    have he := (ARd.of hE).1.1
    exact ⟨y1, by rw [hl]; exact y2, hbn.1 y3, fun hk => hz.1 (y4 hk), fun hk => ⟨by show h.k ≠ 1; rw [← he]; exact (y5 hk).1, X0 (y5 hk).2⟩⟩
  · exact checkStmt_n k pn nn cn e1 e2 e3 p1 n1 c1 p2 n2 c2 p3 n3 c3 e7 o bn z X W (fun W' hW' => allNames_any pn nn cn L W' (hL.keep (grown_trans hW hW')) hN bn hbn) (fun W' hW' => checkNone_any (m + 1) _ _ z hz W' (hE.keep (grown_trans hW hW'))) (fun W' hW' => X1 W' (grown_trans hW hW'))
  · exact rCheckStmt_n k pn nn cn e1 e2 e3 p1 n1 c1 p2 n2 c2 p3 n3 c3 e7 o bn z X L W (hL.keep hW) hN hbn (fun W' hW' => empty_any e1 e2 e3 p1 n1 c1 p2 n2 c2 p3 n3 c3 e7 z W' (hz.trans (eq_zeroT hE))) (fun W' hW' => X2 W' (grown_trans hW hW'))
end Go.Proofs.YtbioamglnndofaaGreatDoor

set_option linter.unusedVariables false
set_option linter.unusedSimpArgs false
namespace Go.Proofs.YtbioamglnndofaaGreatDoor
open Go.RowKit _root_.Nm
theorem infoStr : (Tryz.prog.info? 9).map (fun i => (i.zero, i.size, i.bytes)) = some (some (.string ⟨#[]⟩), 1, 16) := by kernel_rfl
theorem strZ : (Value.string ⟨#[]⟩).cells.size = 1 := rfl
theorem one_pos : 0 < 1 := by decide
theorem one_srd1 (w : World) (e : TypeId) (x : Value) (b : Nat) (hb : b = w.heap.size) : SRd (w.alloc (.cells #[x] e)) 1 (some ⟨b, 0, none⟩) 1 1 [[x]] := one_srd w e 1 [x] rfl b hb
theorem str_one (d : ByteArray) : ∀ u ∈ [Value.string d], u.oneCell' = true := by
  intro u hu
  rw [List.mem_singleton.1 hu]; rfl
theorem NOwn.keepA {w w' : World} {base : Nat} {p : Option Addr} {n c : Nat} {L : List ByteArray} (h : NOwn w base p n c L) (hg : w.grownBy w' none) (O : Obj) : NOwn (w'.alloc O) base p n c L := SOwn.alloc (SOwn.keep h hg) O
/-- beside the own list p lies the list q, which reads as D -/
structure Bes (w : World) (q : Option Addr) (nq cq : Nat) (D : List ByteArray) (p : Option Addr) : Prop where
  rd : NRd w q nq cq D
  lt : ∀ a, q = some a → a.block < w.heap.size
  ne : ∀ a b, q = some a → p = some b → a.block ≠ b.block
theorem Bes.keep {w w' : World} {q p : Option Addr} {nq cq : Nat} {D : List ByteArray} (h : Bes w q nq cq D p) (hg : w.grownBy w' none) : Bes w' q nq cq D p :=
  ⟨h.rd.keep hg, fun a e => Nat.lt_of_lt_of_le (h.lt a e) hg.size, h.ne⟩
section
variable {ops : Array Oper} {rest : List Oper} {o : Oper} {a : Act} {Q : Exit → Act → World → Prop}
/-- append of one string, a new slice, to a list of the call's own; the list beside it stays -/
theorem nls_append (w : World) (hgd : o.guard = none) (s x : Operand) (t : TypeId)
    (ho : o.op = .call { callee := .builtin .append, args := #[s, x], argTypes := #[t, t] }) (h1 : Tryz.prog.underlying t = some (.slice 9))
    (base : Nat) (p : Option Addr) (n c : Nat) (L : List ByteArray) (hs : a.eval s = .slice p n c) (hown : NOwn w base p n c L)
    (sp : Option Addr) (c' : Nat) (d : ByteArray) (hx : a.eval x = .slice sp 1 c') (hrd : SRd w 1 sp 1 c' [[.string d]])
    (b1 : n + 1 ≤ 9223372036854775807) (b2 : (n + 1) * 16 ≤ 140737488355328) (w0 : World) (hg0 : w0.grownBy w none) (hb0 : w0.heap.size ≤ base) (hbase : base ≤ w.heap.size)
    (q : Option Addr) (nq cq : Nat) (D : List ByteArray) (hb : Bes w q nq cq D p)
    (hK : ∀ p' c2 w', NOwn w' base p' (n + 1) c2 (L ++ [d]) → w0.grownBy w' none → Bes w' q nq cq D p' → wpList Tryz.prog ops Q rest (a.put o.dst (.slice p' (n + 1) c2)) w') : wpList Tryz.prog ops Q (o :: rest) a w := by
  obtain ⟨i, hi, hz0, hz1, hz2⟩ := info_parts infoStr
  obtain ⟨b, o', rfl, hc⟩ := hrd.at one_pos (i := 0) (by simp)
  refine wpList_append_own_at w hgd s x t ho base 9 i _ 1 16 h1 hi hz0 hz1 hz2 strZ one_pos _ n (L.map fun d => [Value.string d]).flatten hs hown.2.2 ⟨b, o', none⟩ 1 c' [.string d] hx rfl ?_ (str_one d) (by unfold maxLen; omega) b2 hbase ?_
  · intro j u hu
    obtain ⟨hj, rfl⟩ := List.getElem?_eq_some_iff.1 hu
    have := hc j (by simpa using hj)
    rw [add_addr]
    simpa using this
  · intro v' w' hown' hgr _ hat
    obtain ⟨hl, h3⟩ := hown'
    have hv' : ∃ p' c2, v' = .slice p' (n + 1) c2 := by
      rcases h3 with ⟨rfl, h4⟩ | ⟨g, cap, cur, rfl, _⟩
      · exact ⟨none, 0, by rw [h4]⟩
      · exact ⟨_, _, rfl⟩
    obtain ⟨p', c2, rfl⟩ := hv'
    have hne : ∀ a, q = some a → some a.block ≠ (Value.slice p n c).ownBlock := by
      intro a ha
      cases p with
      | none => simp [Value.ownBlock]
      | some b => simpa [Value.ownBlock] using hb.ne a b ha rfl
    refine hK p' c2 w' ⟨by have := hown.1; simp at this ⊢; exact this, ?_, ?_⟩ (grown_new hg0 hgr fun g hg => ?_) ⟨SRd.kept hb.rd hgr (.inr hne), fun a e => Nat.lt_of_lt_of_le (hb.lt a e) hgr.size, ?_⟩
    · intro r hr
      obtain ⟨d', _, rfl⟩ := List.mem_map.1 hr
      rfl
    · rw [List.map_append, List.flatten_append]
      exact ⟨hl, h3⟩
    · cases p with
      | none => simp [Value.ownBlock] at hg
      | some q' =>
        simp [Value.ownBlock] at hg
        have := (SOwn.lt hown q' rfl).1
        omega
    · intro a b ha hb'
      subst hb'
      rcases hat with h | h
      · have := hne a ha
        rw [← h] at this
        simpa [Value.ownBlock] using this
      · have := hb.lt a ha
        simp [Value.ownBlock] at h
        omega
end
/-- the names of the first k arguments, behind the node's own -/
noncomputable def accN (m : Nat) (h : Hd) (l : List Tr) (k : Nat) : List ByteArray := ded ((if h.k = 1 then [h.nm] else []) ++ ((l.take k).map (preF m)).flatten)
theorem accN_zero (m : Nat) (h : Hd) (l : List Tr) : accN m h l 0 = if h.k = 1 then [h.nm] else [] := by
  unfold accN ded
  by_cases e : h.k = 1
  · rw [if_pos e]; simp [add1]
  · rw [if_neg e]; simp
theorem accN_succ (m : Nat) (h : Hd) (l : List Tr) {k : Nat} (hk : k < l.length) : accN m h l (k + 1) = (ded (preF m l[k])).foldl add1 (accN m h l k) := by
  unfold accN
  rw [List.take_add_one, List.getElem?_eq_getElem hk, List.map_append, List.flatten_append, ← List.append_assoc]
  unfold ded
  rw [List.foldl_append, adds_ded]
  simp
theorem accN_last (m : Nat) (h : Hd) (l : List Tr) {k : Nat} (hk : l.length ≤ k) : accN m h l k = ded (preF (m + 1) (.node h l)) := by
  unfold accN
  rw [List.take_of_length_le hk]
  rfl
theorem pre_len (m : Nat) (h : Hd) (l : List Tr) {k : Nat} (hk : k < l.length) : (preF m l[k]).length ≤ (preF (m + 1) (.node h l)).length := by
  show _ ≤ ((if h.k = 1 then [h.nm] else []) ++ (l.map (preF m)).flatten).length
  rw [List.length_append]
  have : (preF m l[k]) ∈ l.map (preF m) := List.mem_map.2 ⟨_, List.getElem_mem hk, rfl⟩
  have h2 : ∀ (L : List (List ByteArray)) (x : List ByteArray), x ∈ L → x.length ≤ L.flatten.length := by
    intro L
    induction L with
    | nil => intro x hx; cases hx
    | cons a r ih =>
      intro x hx
      rw [List.flatten_cons, List.length_append]
      rcases List.mem_cons.1 hx with e | e
      · subst e; omega
      · have := ih x e; omega
  have := h2 _ _ this
  omega
theorem acc_len (m : Nat) (h : Hd) (l : List Tr) (k : Nat) : (accN m h l k).length ≤ (preF (m + 1) (.node h l)).length := by
  unfold accN
  refine Nat.le_trans (ded_len _) ?_
  show _ ≤ ((if h.k = 1 then [h.nm] else []) ++ (l.map (preF m)).flatten).length
  rw [List.length_append, List.length_append]
  have : ((l.take k).map (preF m)).flatten.length ≤ (l.map (preF m)).flatten.length := by
    have e : (l.map (preF m)).flatten = ((l.take k).map (preF m)).flatten ++ ((l.drop k).map (preF m)).flatten := by
      rw [← List.flatten_append, ← List.map_append, List.take_append_drop]
    rw [e, List.length_append]; omega
  omega

end Go.Proofs.YtbioamglnndofaaGreatDoor

set_option linter.unusedVariables false
set_option linter.unusedSimpArgs false
namespace Go.Proofs.YtbioamglnndofaaGreatDoor
open Go.RowKit Go.Maps _root_.Nm
/-- the names met so far: the map's variable Bm, the list's variable Bs, the map bm; what lies from B0 on is the list's own -/
structure Vis (w : World) (Bm Bs bm B0 : Nat) (L : List ByteArray) : Prop where
  hm : w.heap[Bm]? = some (.cells #[.map (some bm)] 79 (0, 0))
  hs : ∃ (p : Option Addr) (n c : Nat), w.heap[Bs]? = some (.cells #[.slice p n c] 30 (0, 0)) ∧ NOwn w B0 p n c L
  mp : ∃ D : DataW Unit, Maps.IsMap D ∧ w.ownsMap Tryz.prog 9 (plainElem Tryz.prog 4) bm L.length D ∧ (∀ x, x ∈ L → D.atKey (.string x.toList) (.lit (.bool false)) = .lit (.bool true)) ∧ ∀ x, ¬ x ∈ L → D.atKey (.string x.toList) (.lit (.bool false)) = .lit (.bool false)
  lo : Bm < B0 ∧ Bs < B0 ∧ bm < B0 ∧ Bm ≠ Bs ∧ Bs ≠ bm ∧ Bm ≠ bm
theorem Vis.keep {w w' : World} {Bm Bs bm B0 : Nat} {L : List ByteArray} (h : Vis w Bm Bs bm B0 L) (hg : w.grownBy w' none) : Vis w' Bm Bs bm B0 L := by
  obtain ⟨p, n, c, h1, h2⟩ := h.hs
  obtain ⟨D, h3, h4, h5⟩ := h.mp
  exact ⟨keepB h.hm hg, ⟨p, n, c, keepB h1 hg, SOwn.keep h2 hg⟩, ⟨D, h3, h4.kept hg (by simp), h5⟩, h.lo⟩
theorem key_str (d : ByteArray) (h : d.size ≤ maxLen) : keyOf Tryz.prog 9 (.string d) = some (.string d.toList) := by
  rw [Lib.toList_data]
  exact WideMaps.keyOf_string_mk Tryz.underlying9 h
theorem zeroBool (w : World) : (zeroValue 4).run Tryz.prog w = .ok (.bool false) w := by kernel_rfl
set_option maxRecDepth 100000 in
/-- the look-up of a name -/
theorem Vis.look {w : World} {Bm Bs bm B0 : Nat} {L : List ByteArray} (h : Vis w Bm Bs bm B0 L) (d : ByteArray) (hd : d.size ≤ maxLen) :
    (d ∈ L → (Instr.lookup 79 (.map (some bm)) (.string d) false).run Tryz.prog w = .ok (.bool true) w) ∧ (¬ d ∈ L → (Instr.lookup 79 (.map (some bm)) (.string d) false).run Tryz.prog w = .ok (.bool false) w) := by
  obtain ⟨D, h3, h4, h5, h6⟩ := h.mp
  obtain ⟨v, ps, hrun, hv⟩ := h4.lookup (string_keyed Tryz.underlying9) Tryz.underlying79 (zeroBool w) (plainElem_bool Tryz.underlying4 false) (key_str d hd)
  have inv : ∀ b, plainElem (H := Unit) Tryz.prog 4 v = some (.lit (.bool b), ps) → v = .bool b := by
    intro b hb
    unfold plainElem at hb
    rw [Tryz.underlying4] at hb
    cases v <;> simp at hb
    rw [hb.1]
  constructor
  · intro hm
    rw [h5 d hm] at hv
    rw [hrun, inv true hv]
  · intro hm
    rw [h6 d hm] at hv
    rw [hrun, inv false hv]
set_option maxRecDepth 100000 in
/-- a new name is put into the map -/
theorem Vis.note {w : World} {Bm Bs bm B0 : Nat} {L : List ByteArray} (h : Vis w Bm Bs bm B0 L) (d : ByteArray) (hd : d.size ≤ maxLen) (hn : ¬ d ∈ L) (hl : L.length ≤ 1048576) :
    ∃ w', (Instr.mapUpdate 79 (.map (some bm)) (.string d) (.bool true)).run Tryz.prog w = .ok () w' ∧ w.grownBy w' (some bm) ∧ w.heap.size ≤ w'.heap.size ∧
      w'.heap[Bm]? = some (.cells #[.map (some bm)] 79 (0, 0)) ∧ (∃ (p : Option Addr) (n c : Nat), w'.heap[Bs]? = some (.cells #[.slice p n c] 30 (0, 0)) ∧ NOwn w' B0 p n c L) ∧
      ∃ D : DataW Unit, Maps.IsMap D ∧ w'.ownsMap Tryz.prog 9 (plainElem Tryz.prog 4) bm (L ++ [d]).length D ∧ (∀ x, x ∈ L ++ [d] → D.atKey (.string x.toList) (.lit (.bool false)) = .lit (.bool true)) ∧ ∀ x, ¬ x ∈ L ++ [d] → D.atKey (.string x.toList) (.lit (.bool false)) = .lit (.bool false) := by
  obtain ⟨D, h3, h4, h5, h6⟩ := h.mp
  obtain ⟨lo1, lo2, lo3, lo4, lo5, lo6⟩ := h.lo
  obtain ⟨w', hrun, hown, hg⟩ := h4.update (string_keyed Tryz.underlying9) Tryz.underlying79 (by unfold maxLen; omega) (key_str d hd) (plainElem_bool Tryz.underlying4 true)
  obtain ⟨p, n, c, h7, h8⟩ := h.hs
  refine ⟨w', hrun, hg, hg.size, (hg.block Bm (lt_of_block h.hm) (by simpa using lo6)).trans h.hm, ⟨p, n, c, (hg.block Bs (lt_of_block h7) (by simpa using lo5)).trans h7, SOwn.kept h8 hg (.inr fun q hq => ?_)⟩, _, h3.put _ _, by rw [List.length_append]; exact hown, ?_, ?_⟩
  · have := (SOwn.lt h8 q hq).1
    simp; omega
  · intro x hx
    by_cases e : x = d
    · subst e
      exact atKey_put_same h3 (by simp [WideAt.IsKeyLit]) _ _
    · rw [atKey_put_other (by intro e2; exact e (bytes_eq.1 (by simpa using e2)))]
      exact h5 x ((List.mem_append.1 hx).elim id fun h => absurd (by simpa using h) e)
  · intro x hx
    have e : ¬ x = d := fun e => hx (by simp [e])
    rw [atKey_put_other (by intro e2; exact e (bytes_eq.1 (by simpa using e2)))]
    exact h6 x fun h => hx (by simp [h])

/-- what a visit leaves alone: expressions in boxes -/
def BoxK (w w' : World) : Prop := ∀ (G : Nat) (cs : Array Value), w.heap[G]? = some (.cells cs 44 (0, 0)) → w'.heap[G]? = some (.cells cs 44 (0, 0))
theorem BoxK.refl (w : World) : BoxK w w := fun _ _ h => h
theorem BoxK.trans {a b c : World} (h : BoxK a b) (k : BoxK b c) : BoxK a c := fun G cs e => k G cs (h G cs e)
theorem BoxK.grown {a b : World} (h : a.grownBy b none) : BoxK a b := fun G cs e => keepB e h
/-- the state behind a visit -/
structure VisP (w0 w w' : World) (Bm Bs bm B0 : Nat) (L : List ByteArray) : Prop where
  vis : Vis w' Bm Bs bm B0 L
  gr : w0.grownBy w' none
  box : BoxK w w'
  sz : w.heap.size ≤ w'.heap.size
noncomputable def visL (k : Int) (nm : ByteArray) (L : List ByteArray) : List ByteArray := if k = 1 then add1 L nm else L
end Go.Proofs.YtbioamglnndofaaGreatDoor

set_option linter.unusedVariables false
set_option linter.unusedSimpArgs false
namespace Go.Proofs.YtbioamglnndofaaGreatDoor
open Go.RowKit Go.Maps _root_.Nm
/-- the map bm holds each name x with the number F x, where that is not 0 -/
structure MapS (w : World) (bm n : Nat) (F : ByteArray → Int) : Prop where
  ex : ∃ D : DataW Unit, Maps.IsMap D ∧ w.ownsMap Tryz.prog 9 (plainElem Tryz.prog 3) bm n D ∧ ∀ x : ByteArray, Maps.has D (.string x.toList) = decide (F x ≠ 0) ∧ D.atKey (.string x.toList) (.lit (.int .i64 0)) = .lit (.int .i64 (F x))
/-- the map bm holds the truth values S x, where they are true -/
structure MapB (w : World) (bm n : Nat) (S : ByteArray → Bool) : Prop where
  ex : ∃ D : DataW Unit, Maps.IsMap D ∧ w.ownsMap Tryz.prog 9 (plainElem Tryz.prog 4) bm n D ∧ ∀ x : ByteArray, D.atKey (.string x.toList) (.lit (.bool false)) = .lit (.bool (S x))
section
variable {w w' : World} {bm n : Nat} {F : ByteArray → Int} {S : ByteArray → Bool}
theorem MapS.kept (h : MapS w bm n F) {row : Option Nat} (hg : w.grownBy w' row) (hne : some bm ≠ row) : MapS w' bm n F := by
  obtain ⟨D, h1, h2, h3⟩ := h.ex
  exact ⟨D, h1, h2.kept hg hne, h3⟩
theorem MapS.keep (h : MapS w bm n F) (hg : w.grownBy w' none) : MapS w' bm n F := h.kept hg (by simp)
theorem MapB.kept (h : MapB w bm n S) {row : Option Nat} (hg : w.grownBy w' row) (hne : some bm ≠ row) : MapB w' bm n S := by
  obtain ⟨D, h1, h2, h3⟩ := h.ex
  exact ⟨D, h1, h2.kept hg hne, h3⟩
theorem MapB.keep (h : MapB w bm n S) (hg : w.grownBy w' none) : MapB w' bm n S := h.kept hg (by simp)
theorem MapS.lt (h : MapS w bm n F) : bm < w.heap.size := by
  obtain ⟨D, h1, h2, h3⟩ := h.ex
  exact h2.lt
theorem MapB.lt (h : MapB w bm n S) : bm < w.heap.size := by
  obtain ⟨D, h1, h2, h3⟩ := h.ex
  exact h2.lt
theorem zeroInt0 (w : World) : (zeroValue 3).run Tryz.prog w = .ok (.int .i64 0) w := by kernel_rfl
theorem MapS.made (w : World) : MapS (w.alloc (.map #[] 0)) w.heap.size 0 (fun _ => 0) :=
  ⟨.map [], ⟨[], rfl⟩, World.ownsMap_made w _ _ _, fun x => ⟨by simp [Maps.has], by rfl⟩⟩
theorem MapB.made (w : World) : MapB (w.alloc (.map #[] 0)) w.heap.size 0 (fun _ => false) :=
  ⟨.map [], ⟨[], rfl⟩, World.ownsMap_made w _ _ _, fun x => by rfl⟩
set_option maxRecDepth 100000 in
theorem MapS.look (h : MapS w bm n F) (d : ByteArray) (hd : d.size ≤ maxLen) :
    (Instr.lookup 49 (.map (some bm)) (.string d) true).run Tryz.prog w = .ok (.tuple #[.int .i64 (F d), .bool (decide (F d ≠ 0))]) w := by
  obtain ⟨D, h1, h2, h3⟩ := h.ex
  obtain ⟨v, ps, hrun, hv⟩ := h2.look_ok (string_keyed Tryz.underlying9) Tryz.underlying49 (zeroInt0 w) (plainElem_int Tryz.underlying3 (by decide)) (key_str d hd)
  rw [(h3 d).2] at hv
  obtain ⟨a, rfl, ha, _⟩ := plainElem_int_inv Tryz.underlying3 hv
  simp at ha
  rw [hrun, (h3 d).1, ha.1]
set_option maxRecDepth 100000 in
theorem MapS.put (h : MapS w bm n F) (d : ByteArray) (hd : d.size ≤ maxLen) (s : Int) (hs : (Lit.int .i64 s).wf = true) (hs0 : s ≠ 0) (hn : n < 1000000000) :
    ∃ w', (Instr.mapUpdate 49 (.map (some bm)) (.string d) (.int .i64 s)).run Tryz.prog w = .ok () w' ∧ w.grownBy w' (some bm) ∧ MapS w' bm (n + 1) (fun x => if x = d then s else F x) := by
  obtain ⟨D, h1, h2, h3⟩ := h.ex
  obtain ⟨w', hrun, hown, hg⟩ := h2.update (string_keyed Tryz.underlying9) Tryz.underlying49 (by unfold maxLen; omega) (key_str d hd) (plainElem_int Tryz.underlying3 hs)
  refine ⟨w', hrun, hg, _, h1.put _ _, hown, fun x => ?_⟩
  by_cases e : x = d
  · subst e
    rw [if_pos rfl]
    exact ⟨by rw [has_put_same h1 (by simp [WideAt.IsKeyLit])]; simp [hs0], atKey_put_same h1 (by simp [WideAt.IsKeyLit]) _ _⟩
  · have hne : (Lit.string x.toList) ≠ .string d.toList := by intro e2; exact e (bytes_eq.1 (by simpa using e2))
    rw [if_neg e, has_put_other hne, atKey_put_other hne]
    exact h3 x
set_option maxRecDepth 100000 in
theorem MapB.look (h : MapB w bm n S) (d : ByteArray) (hd : d.size ≤ maxLen) :
    (Instr.lookup 79 (.map (some bm)) (.string d) false).run Tryz.prog w = .ok (.bool (S d)) w := by
  obtain ⟨D, h1, h2, h3⟩ := h.ex
  obtain ⟨v, ps, hrun, hv⟩ := h2.lookup (string_keyed Tryz.underlying9) Tryz.underlying79 (zeroBool w) (plainElem_bool Tryz.underlying4 false) (key_str d hd)
  rw [h3 d] at hv
  have inv : ∀ b, plainElem (H := Unit) Tryz.prog 4 v = some (.lit (.bool b), ps) → v = .bool b := by
    intro b hb
    unfold plainElem at hb
    rw [Tryz.underlying4] at hb
    cases v <;> simp at hb
    rw [hb.1]
  rw [hrun, inv _ hv]
set_option maxRecDepth 100000 in
theorem MapB.put (h : MapB w bm n S) (d : ByteArray) (hd : d.size ≤ maxLen) (hn : n < 1000000000) (b : Bool) :
    ∃ w', (Instr.mapUpdate 79 (.map (some bm)) (.string d) (.bool b)).run Tryz.prog w = .ok () w' ∧ w.grownBy w' (some bm) ∧ MapB w' bm (n + 1) (fun x => if x = d then b else S x) := by
  obtain ⟨D, h1, h2, h3⟩ := h.ex
  obtain ⟨w', hrun, hown, hg⟩ := h2.update (string_keyed Tryz.underlying9) Tryz.underlying79 (by unfold maxLen; omega) (key_str d hd) (plainElem_bool Tryz.underlying4 b)
  refine ⟨w', hrun, hg, _, h1.put _ _, hown, fun x => ?_⟩
  by_cases e : x = d
  · subst e
    rw [if_pos rfl]
    exact atKey_put_same h1 (by simp [WideAt.IsKeyLit]) _ _
  · have hne : (Lit.string x.toList) ≠ .string d.toList := by intro e2; exact e (bytes_eq.1 (by simpa using e2))
    rw [if_neg e, atKey_put_other hne]
    exact h3 x
set_option maxRecDepth 100000 in
theorem MapB.drop (h : MapB w bm n S) (d : ByteArray) (hd : d.size ≤ maxLen) (ty : TypeId) :
    ∃ w', (Builtin.delete_ #[79, 9] ty #[.map (some bm), .string d]).run Tryz.prog w = .ok (.tuple #[]) w' ∧ w.grownBy w' (some bm) ∧ MapB w' bm n (fun x => if x = d then false else S x) := by
  obtain ⟨D, h1, h2, h3⟩ := h.ex
  obtain ⟨w', hrun, hown, hg⟩ := h2.drop (string_keyed Tryz.underlying9) Tryz.underlying79 (key_str d hd) ty
  refine ⟨w', hrun, hg.grown, _, h1.del _, hown, fun x => ?_⟩
  by_cases e : x = d
  · subst e
    rw [if_pos rfl]
    exact atKey_del_same _
  · have hne : (Lit.string x.toList) ≠ .string d.toList := by intro e2; exact e (bytes_eq.1 (by simpa using e2))
    rw [if_neg e, atKey_del_other hne]
    exact h3 x
end
end Go.Proofs.YtbioamglnndofaaGreatDoor

set_option linter.unusedVariables false
set_option linter.unusedSimpArgs false
namespace Go.Proofs.YtbioamglnndofaaGreatDoor
open Go.RowKit _root_.Nm Ax Lx
/-- the sort as which a kind of statements defines its names -/
def sortD (k : Int) : Int := if k = 1 then 1 else if k = 2 then 1 else if k = 3 then 2 else if k = 4 then 3 else 0
/-- whether a sort fits a parameter -/
def fitD (s p : Int) : Bool := if p = 0 then decide (s ≠ 1) else decide (s = p)
open Classical in
/-- the sort of a name behind f statements from the one with the number k on -/
noncomputable def defF (K : Nat → Int) (NL : Nat → List ByteArray) (d : ByteArray) : Nat → Nat → Int
  | _, 0 => 0
  | k, f + 1 => if d ∈ NL k then sortD (K k) else defF K NL d (k + 1) f
/-- the error of a name that is defined as a sort, for a parameter -/
def nmE (is s : Int) : Int := if is = 0 then 6 else if fitD is s = true then 0 else 8
/-- the error of the names in an expression that stands for a parameter -/
def usE (F : ByteArray → Int) : Nat → Tr → Int → Int
  | 0, _, _ => 0
  | m + 1, .node h l, s => if h.k = 1 then nmE (F h.nm) s else scan (fun i => usE F m (l.getD i zeroT) ((prm h.k).getD i 0 : Nat)) 0 l.length
/-- .. in the arguments of an expression -/
def usA (F : ByteArray → Int) : Nat → Tr → Int
  | 0, _ => 0
  | m + 1, .node h l => scan (fun i => usE F m (l.getD i zeroT) ((prm h.k).getD i 0 : Nat)) 0 l.length
theorem usE_name (F : ByteArray → Int) (m : Nat) (h : Hd) (l : List Tr) (s : Int) (hk : h.k = 1) : usE F (m + 1) (.node h l) s = nmE (F h.nm) s := by
  unfold usE; rw [if_pos hk]
theorem usE_args (F : ByteArray → Int) (m : Nat) (h : Hd) (l : List Tr) (s : Int) (hk : h.k ≠ 1) : usE F (m + 1) (.node h l) s = usA F (m + 1) (.node h l) := by
  unfold usE usA; rw [if_neg hk]
open Classical in
/-- the error of new names -/
noncomputable def newE (F : ByteArray → Int) (L : List ByteArray) : Int := if ∀ i (hi : i < L.length), F L[i] = 0 ∧ ¬ L[i] ∈ L.take i then 0 else 7
theorem sortD_wf (k : Int) : (Lit.int .i64 (sortD k)).wf = true := by
  unfold sortD
  repeat' split
  all_goals decide
theorem defF_here {K : Nat → Int} {NL : Nat → List ByteArray} {d : ByteArray} {k f : Nat} (h : d ∈ NL k) : defF K NL d k (f + 1) = sortD (K k) := if_pos h
theorem defF_next {K : Nat → Int} {NL : Nat → List ByteArray} {d : ByteArray} {k f : Nat} (h : ¬ d ∈ NL k) : defF K NL d k (f + 1) = defF K NL d (k + 1) f := if_neg h
/-- one statement more, at the end -/
theorem defF_snoc {K : Nat → Int} {NL : Nat → List ByteArray} {d : ByteArray} : ∀ {f k : Nat}, (¬ d ∈ NL (k + f) → defF K NL d k (f + 1) = defF K NL d k f) ∧ ((∀ j, k ≤ j → j < k + f → ¬ d ∈ NL j) → d ∈ NL (k + f) → defF K NL d k (f + 1) = sortD (K (k + f)))
  | 0, k => ⟨fun h => by rw [defF_next (by simpa using h)]; rfl, fun _ h => by rw [defF_here (by simpa using h)]; rfl⟩
  | f + 1, k => by
    have ih := @defF_snoc K NL d f (k + 1)
    rw [show k + 1 + f = k + (f + 1) by omega] at ih
    by_cases hd : d ∈ NL k
    · exact ⟨fun _ => by rw [defF_here hd, defF_here hd], fun h => absurd hd (h k (Nat.le_refl _) (by omega))⟩
    · rw [defF_next hd, defF_next (f := f) hd]
      exact ⟨ih.1, fun h h2 => ih.2 (fun j h3 h4 => h j (by omega) (by omega)) h2⟩
/-- names that are defined, where every statement that defines names gives them a sort -/
theorem defF_ne {K : Nat → Int} {NL : Nat → List ByteArray} {d : ByteArray} : ∀ {f k : Nat}, (∀ j, k ≤ j → j < k + f → NL j ≠ [] → sortD (K j) ≠ 0) → (defF K NL d k f ≠ 0 ↔ ∃ j, k ≤ j ∧ j < k + f ∧ d ∈ NL j)
  | 0, k, _ => ⟨fun h => absurd rfl h, fun ⟨j, h1, h2, _⟩ => by omega⟩
  | f + 1, k, h => by
    by_cases hd : d ∈ NL k
    · rw [defF_here hd]
      exact ⟨fun _ => ⟨k, Nat.le_refl _, by omega, hd⟩, fun _ => h k (Nat.le_refl _) (by omega) (List.ne_nil_of_mem hd)⟩
    · rw [defF_next hd, defF_ne (fun j h1 h2 => h j (by omega) (by omega))]
      constructor
      · rintro ⟨j, h1, h2, h3⟩
        exact ⟨j, by omega, by omega, h3⟩
      · rintro ⟨j, h1, h2, h3⟩
        refine ⟨j, ?_, by omega, h3⟩
        by_cases e : j = k
        · subst e; exact absurd h3 hd
        · omega
set_option maxHeartbeats 4000000 in
set_option maxRecDepth 100000 in
theorem sSortOf_any (k : Int) (w : World) : Calls Tryz.prog 27 #[.int .i64 k] w fun e w' => e = .returned (.int .i64 (sortD k)) ∧ w.grownBy w' none := by
  unfold sortD
  by_cases h1 : k = 1
  · subst h1
    go_enter Tryz.func27, Tryz.ntmps27
    go_wp2_with fail
    go_ret
    exact ⟨by simp, grown_refl _ _⟩
  by_cases h2 : k = 2
  · subst h2
    go_enter Tryz.func27, Tryz.ntmps27
    go_wp2_with fail
    go_ret
    exact ⟨by simp, grown_refl _ _⟩
  by_cases h3 : k = 3
  · subst h3
    go_enter Tryz.func27, Tryz.ntmps27
    go_wp2_with fail
    go_ret
    exact ⟨by simp, grown_refl _ _⟩
  by_cases h4 : k = 4
  · subst h4
    go_enter Tryz.func27, Tryz.ntmps27
    go_wp2_with fail
    go_ret
    exact ⟨by simp, grown_refl _ _⟩
  go_enter Tryz.func27, Tryz.ntmps27
  go_wp2_with fail
  go_ret
  exact ⟨by simp [h1, h2, h3, h4], grown_refl _ _⟩
set_option maxHeartbeats 4000000 in
set_option maxRecDepth 100000 in
theorem rSortOf19_any (k : Int) (w : World) : Calls Tryz.prog 17 #[.int .i64 k] w fun e w' => e = .returned (.int .i64 (sortD k)) ∧ w.grownBy w' none := by
  unfold sortD
  by_cases h1 : k = 1
  · subst h1
    go_enter Tryz.func17, Tryz.ntmps17
    go_wp2_with fail
    go_ret
    exact ⟨by simp, grown_refl _ _⟩
  by_cases h2 : k = 2
  · subst h2
    go_enter Tryz.func17, Tryz.ntmps17
    go_wp2_with fail
    go_ret
    exact ⟨by simp, grown_refl _ _⟩
  by_cases h3 : k = 3
  · subst h3
    go_enter Tryz.func17, Tryz.ntmps17
    go_wp2_with fail
    go_ret
    exact ⟨by simp, grown_refl _ _⟩
  by_cases h4 : k = 4
  · subst h4
    go_enter Tryz.func17, Tryz.ntmps17
    go_wp2_with fail
    go_ret
    exact ⟨by simp, grown_refl _ _⟩
  go_enter Tryz.func17, Tryz.ntmps17
  go_wp2_with fail
  go_ret
  exact ⟨by simp [h1, h2, h3, h4], grown_refl _ _⟩
set_option maxHeartbeats 4000000 in
set_option maxRecDepth 100000 in
theorem sFits_any (s p : Int) (w : World) : Calls Tryz.prog 63 #[.int .i64 s, .int .i64 p] w fun e w' => e = .returned (.bool (fitD s p)) ∧ w.grownBy w' none := by
  unfold fitD
  by_cases h1 : p = 0
  · subst h1
    have hA : (s != 1) = decide (s ≠ 1) := by rw [Bool.eq_iff_iff]; simp
    go_enter Tryz.func63, Tryz.ntmps63
    go_wp2_with fail
    go_ret
    exact ⟨by simp [hA], grown_refl _ _⟩
  · have hz : (p == 0) = false := by simpa using h1
    have hA : (s == p) = decide (s = p) := by rw [Bool.eq_iff_iff]; simp
    go_enter Tryz.func63, Tryz.ntmps63
    go_wp2_with fail
    go_ret
    exact ⟨by simp [h1, hA], grown_refl _ _⟩
end Go.Proofs.YtbioamglnndofaaGreatDoor

set_option linter.unusedVariables false
set_option linter.unusedSimpArgs false
namespace Go.Proofs.YtbioamglnndofaaGreatDoor
open Go.RowKit _root_.Nm Ax Lx
set_option maxHeartbeats 8000000 in
set_option maxRecDepth 100000 in
theorem sArg_name (bm n : Nat) (F : ByteArray → Int) (e2 : ByteArray) (e3 : Bool) (p1 : Option Addr) (n1 c1 : Nat) (p2 : Option Addr) (n2 c2 : Nat) (p3 : Option Addr) (n3 c3 : Nat) (e7 s : Int) (w : World) (hM : MapS w bm n F) (hnm : e2.size ≤ maxLen) :
    Calls Tryz.prog 45 #[.map (some bm), .agg #[.int .i64 1, .string e2, .bool e3, .slice p1 n1 c1, .slice p2 n2 c2, .slice p3 n3 c3, .int .i64 e7], .int .i64 s] w fun e w' => e = .returned (.int .i64 (nmE (F e2) s)) ∧ w.grownBy w' none := by
  have hW := World.grownBy_alloc w (.cells #[.int .i64 1, .string e2, .bool e3, .slice p1 n1 c1, .slice p2 n2 c2, .slice p3 n3 c3, .int .i64 e7] 44 (0, 0)) none
  obtain ⟨⟨k0, k1, k2, k3, k4, k5, k6⟩, -⟩ := box7 (blk0 w (.cells #[.int .i64 1, .string e2, .bool e3, .slice p1 n1 c1, .slice p2 n2 c2, .slice p3 n3 c3, .int .i64 e7] 44 (0, 0)))
  have hlk := (hM.keep hW).look e2 hnm
  have HF := hid fun w => sFits_any (F e2) s w
  clear hM hnm
  unfold nmE
  generalize F e2 = q at *
  by_cases hq : q = 0
  · subst hq
    simp only [ne_eq, not_true_eq_false, decide_false] at hlk
    go_enter Tryz.func45, Tryz.ntmps45
    go_upto_region 1 with fail
    generalize (w.alloc _) = w0 at *
    go_wp2_with fail
    go_ret
    exact ⟨by simp, hW⟩
  · simp only [ne_eq, hq, not_false_eq_true, decide_true] at hlk
    rw [if_neg hq]
    obtain ⟨fb, hfb⟩ : ∃ b, b = fitD q s := ⟨_, rfl⟩
    rw [← hfb] at HF ⊢
    clear hfb hq
    cases fb
    all_goals
      go_enter Tryz.func45, Tryz.ntmps45
      go_upto_region 1 with fail
      generalize (w.alloc _) = w0 at *
      go_wp2_with (go_at_call 63; refine (HF.out _).mono ?_; rintro e w1 ⟨rfl, hg⟩; replace hW := grown_trans hW hg; clear hg)
      go_ret
      exact ⟨by simp, hW⟩
set_option maxHeartbeats 8000000 in
set_option maxRecDepth 100000 in
theorem sArg_args (bm : Nat) (e1 : Int) (e2 : ByteArray) (e3 : Bool) (p1 : Option Addr) (n1 c1 : Nat) (p2 : Option Addr) (n2 c2 : Nat) (p3 : Option Addr) (n3 c3 : Nat) (e7 : Int) (s X : Int) (w : World) (hk : e1 ≠ 1) (hX : ∀ W, w.grownBy W none → Calls Tryz.prog 25 #[.map (some bm), .agg #[.int .i64 e1, .string e2, .bool e3, .slice p1 n1 c1, .slice p2 n2 c2, .slice p3 n3 c3, .int .i64 e7]] W fun e w' => e = .returned (.int .i64 X) ∧ W.grownBy w' none) :
    Calls Tryz.prog 45 #[.map (some bm), .agg #[.int .i64 e1, .string e2, .bool e3, .slice p1 n1 c1, .slice p2 n2 c2, .slice p3 n3 c3, .int .i64 e7], .int .i64 s] w fun e w' => e = .returned (.int .i64 X) ∧ w.grownBy w' none := by
  have hW := World.grownBy_alloc w (.cells #[.int .i64 e1, .string e2, .bool e3, .slice p1 n1 c1, .slice p2 n2 c2, .slice p3 n3 c3, .int .i64 e7] 44 (0, 0)) none
  obtain ⟨⟨k0, k1, k2, k3, k4, k5, k6⟩, -⟩ := box7 (blk0 w (.cells #[.int .i64 e1, .string e2, .bool e3, .slice p1 n1 c1, .slice p2 n2 c2, .slice p3 n3 c3, .int .i64 e7] 44 (0, 0)))
  have HX := hid hX
  have hq : (e1 != 1) = true := by simpa using hk
  clear hX
  go_enter Tryz.func45, Tryz.ntmps45
  go_upto_region 1 with fail
  generalize (w.alloc _) = w0 at *
  go_wp2_with (go_at_call 25; refine (HX.out _ hW).mono ?_; rintro e w1 ⟨rfl, hg⟩; replace hW := grown_trans hW hg; clear hg)
  go_ret
  exact ⟨rfl, hW⟩
set_option maxHeartbeats 16000000 in
set_option maxRecDepth 100000 in
theorem sArgs_n (bm : Nat) (e1 : Int) (e2 : ByteArray) (e3 : Bool) (p1 : Option Addr) (n1 c1 : Nat) (p2 : Option Addr) (n2 c2 : Nat) (p3 : Option Addr) (n3 c3 : Nat) (e7 : Int) (w : World) (hn3 : n3 = (prm e1).length) (hc3 : n3 ≤ c3 ∧ c3 ≤ 9223372036854775807)
    (C : Nat → List Value) (X : Nat → Int) (hC : ∀ i, i < n3 → ArgAt w p3 i (C i))
    (hX : ∀ i (hi : i < n3) (hp : i < (prm e1).length), ∀ W, w.grownBy W none → Calls Tryz.prog 45 #[.map (some bm), .agg (C i).toArray, .int .i64 ((prm e1)[i] : Nat)] W fun e w' => e = .returned (.int .i64 (X i)) ∧ W.grownBy w' none)
    (x : Int) (hx : x = scan X 0 n3) :
    Calls Tryz.prog 25 #[.map (some bm), .agg #[.int .i64 e1, .string e2, .bool e3, .slice p1 n1 c1, .slice p2 n2 c2, .slice p3 n3 c3, .int .i64 e7]] w fun e w' => e = .returned (.int .i64 x) ∧ w.grownBy w' none := by
  have HP := hid fun w => params_any e1 w
  have HCC := hid hC
  have HX := hid hX
  have hpl : (prm e1).length ≤ 6 := prm_len e1
  have HXX := hid hx
  clear hC hX hx
  have hW := World.grownBy_alloc w (.cells #[.int .i64 e1, .string e2, .bool e3, .slice p1 n1 c1, .slice p2 n2 c2, .slice p3 n3 c3, .int .i64 e7] 44 (0, 0)) none
  obtain ⟨⟨k0, k1, k2, k3, k4, k5, k6⟩, -⟩ := box7 (blk0 w (.cells #[.int .i64 e1, .string e2, .bool e3, .slice p1 n1 c1, .slice p2 n2 c2, .slice p3 n3 c3, .int .i64 e7] 44 (0, 0)))
  generalize (prm e1) = pl at *
  subst hn3
  go_enter Tryz.func25, Tryz.ntmps25
  go_upto_region 1 with fail
  generalize (w.alloc _) = w0 at *
  go_wp2_with (go_at_call 44; (with_reducible refine (HP.out _).mono ?_); rintro e w2 ⟨pp, nn, cc, rfl, hfr, hrd, hg⟩; obtain rfl := hrd.len; replace hW := grown_trans hW hg; replace k0 := hg.cell k0 (by simp); replace k1 := hg.cell k1 (by simp); replace k2 := hg.cell k2 (by simp); replace k3 := hg.cell k3 (by simp); replace k4 := hg.cell k4 (by simp); replace k5 := hg.cell k5 (by simp); replace k6 := hg.cell k6 (by simp); have HRD := hid hrd; have hcc := hrd.cap; have hcm := hrd.max; clear hg hrd hfr)
  have HW2 := hid hW
  have K5 := hid k5
  clear HP k0 k1 k2 k3 k4 k6 k5 hW
  go_loopw [12] (fun y wr => ∃ k : Nat, k ≤ pl.length ∧ y = .int .i64 k ∧ w2.grownBy wr none ∧ Hid (scan X k (pl.length - k) = x)) (fun y _ => pl.length - (intOf y).toNat)
  case atStart => exact ⟨0, Nat.zero_le _, rfl, grown_refl _ _, hid HXX.out.symm⟩
  case round =>
    clear HXX
    obtain ⟨k, hk, rfl, hg, hsc⟩ := hrel
    by_cases hlt : k < pl.length
    · have hgw := grown_trans HW2.out hg
      have k5 := hg.cell K5.out (by simp)
      obtain ⟨bP, oP, rfl, cP⟩ := HRD.out.cel k hlt
      replace cP := hg.cell cP (by simp)
      obtain ⟨bA, oA, x1, x2, x3, q1, m1, d1, q2, m2, d2, q3, m3, d3, x7, rfl, hck, a0, a1, a2, a3, a4, a5, a6⟩ := HCC.out k hlt
      replace a0 := hgw.cell a0 (by simp); replace a1 := hgw.cell a1 (by simp); replace a2 := hgw.cell a2 (by simp); replace a3 := hgw.cell a3 (by simp); replace a4 := hgw.cell a4 (by simp); replace a5 := hgw.cell a5 (by simp); replace a6 := hgw.cell a6 (by simp)
      have HC := hid (HX.out k hlt hlt wr hgw)
      rw [hck] at HC
      rw [scan_step hlt] at hsc
      clear hck
      generalize X k = v at *
      by_cases hv : v = 0
      · subst hv
        rw [if_pos rfl] at hsc
        go_wp2_with (go_at_call 45; refine HC.out.mono ?_; rintro e w3 ⟨rfl, hg3⟩)
        exact ⟨⟨k + 1, by omega, by go_num, grown_trans hg hg3, hsc⟩, by simp [intOf]; omega⟩
      · rw [if_neg hv] at hsc
        obtain rfl := hsc.out
        go_wp2_with (go_at_call 45; refine HC.out.mono ?_; rintro e w3 ⟨rfl, hg3⟩)
        go_ret
        exact ⟨rfl, grown_trans hgw hg3⟩
    · obtain rfl : k = pl.length := by omega
      obtain rfl : x = 0 := by
        have := hsc.out
        rw [Nat.sub_self] at this
        exact this.symm
      go_wp2_with fail
      go_ret
      exact ⟨rfl, grown_trans HW2.out hg⟩
theorem take_mem {L : List ByteArray} {k : Nat} (hk : k < L.length) {d : ByteArray} : d ∈ L.take (k + 1) ↔ d ∈ L.take k ∨ d = L[k] := by
  rw [List.take_add_one, List.getElem?_eq_getElem hk, List.mem_append]
  simp
open Classical in
set_option maxHeartbeats 16000000 in
set_option maxRecDepth 100000 in
theorem sNew_n (bm n0 : Nat) (F : ByteArray → Int) (p : Option Addr) (n c : Nat) (L : List ByteArray) (w : World) (hM : MapS w bm n0 F) (h : NRd w p n c L) (hs : ∀ i (hi : i < L.length), (L[i]).size ≤ maxLen) (hn : n ≤ 1000000) (x : Int) (hx : newE F L = x) :
    Calls Tryz.prog 26 #[.map (some bm), .slice p n c] w fun e w' => e = .returned (.int .i64 x) ∧ w.grownBy w' none := by
  have hl := h.len
  have hc := SRd.cap h
  have hm := SRd.max h
  have H := hid h
  have HS := hid hs
  have HM := hid hM
  have HX := hid hx
  clear h hs hM hx
  have hmm := @run_makeMap Tryz.prog
  have HW := hid (World.grownBy_alloc w (.map #[] 0) none)
  have HB := hid (MapB.made w)
  go_enter Tryz.func26, Tryz.ntmps26
  go_wp2_with fail
  go_loopw [13] (fun y wr => ∃ k : Nat, k ≤ n ∧ y = .int .i64 k ∧ w.grownBy wr none ∧ MapB wr w.heap.size k (fun d => decide (d ∈ L.take k)) ∧ ∀ i (hi : i < L.length), i < k → F L[i] = 0 ∧ ¬ L[i] ∈ L.take i) (fun y _ => n - (intOf y).toNat)
  case atStart => exact ⟨0, Nat.zero_le _, rfl, HW.out, by simpa using HB.out, fun i _ h => absurd h (Nat.not_lt_zero i)⟩
  case round =>
    clear HW HB
    obtain ⟨k, hk, rfl, hg, hB, hall⟩ := hrel
    have HALL := hid hall
    have HG := hid hg
    clear hall
    by_cases hlt : k < n
    · obtain ⟨bA, oA, rfl, c0⟩ := NRd.at1 (H.out.keep hg) (i := k) (by omega)
      have hsz := HS.out k (by omega)
      have hlk1 := (HM.out.keep hg).look _ hsz
      have hlk2 := hB.look _ hsz
      obtain ⟨w1, hrun, hg1, hB1⟩ := hB.put _ hsz (by omega) true
      have hkL : k < L.length := by omega
      obtain ⟨q, hq⟩ : ∃ q, q = F (L[k]'hkL) := ⟨_, rfl⟩
      obtain ⟨r, hr⟩ : ∃ r, r = decide ((L[k]'hkL) ∈ L.take k) := ⟨_, rfl⟩
      rw [← hq] at hlk1
      simp only [← hr] at hlk2
      have HQ := hid hq
      have HR := hid hr
      have HB1 := hid hB1
      have HG1 := hid hg1
      obtain ⟨d, hd⟩ : ∃ d, d = L[k]'hkL := ⟨_, rfl⟩
      rw [← hd] at c0 hlk1 hlk2 hrun
      have HD := hid hd
      clear hq hr hd hB1 hg1 hB hsz hg
      by_cases hq0 : q = 0
      · subst hq0
        simp only [ne_eq, not_true_eq_false, decide_false] at hlk1
        cases r
        · go_wp2_with fail
          refine ⟨⟨k + 1, by omega, by go_num, grown_new HG.out HG1.out (fun g e => by cases e; exact Nat.le_refl _), ?_, fun i hi h => ?_⟩, by simp [intOf]; omega⟩
          · have := HB1.out
            rw [show (fun x => if x = L[k]'hkL then true else decide (x ∈ L.take k)) = (fun d => decide (d ∈ L.take (k + 1))) from by
              funext x
              rw [Bool.eq_iff_iff]
              simp only [decide_eq_true_eq, take_mem hkL]
              by_cases e : x = L[k]'hkL
              · simp [e]
              · simp [e]] at this
            exact this
          · rcases Nat.lt_or_eq_of_le (Nat.le_of_lt_succ h) with h | rfl
            · exact HALL.out i hi h
            · exact ⟨HQ.out.symm, by simpa using HR.out.symm⟩
        · obtain rfl : x = 7 := by
            rw [← HX.out]
            unfold newE
            rw [if_neg]
            intro h9
            have := (h9 k hkL).2
            exact this (by simpa using HR.out.symm)
          go_wp2_with fail
          go_ret
          exact ⟨rfl, HG.out⟩
      · simp only [ne_eq, hq0, not_false_eq_true, decide_true] at hlk1
        obtain rfl : x = 7 := by
          rw [← HX.out]
          unfold newE
          rw [if_neg]
          intro h9
          have := (h9 k hkL).1
          rw [← HQ.out] at this
          exact hq0 this
        go_wp2_with fail
        go_ret
        exact ⟨rfl, HG.out⟩
    · obtain rfl : k = n := by omega
      obtain rfl : x = 0 := by
        rw [← HX.out]
        unfold newE
        rw [if_pos]
        intro i hi
        exact HALL.out i hi (by omega)
      go_wp2_with fail
      go_ret
      exact ⟨rfl, HG.out⟩
open Classical in
/-- names are noted with a sort -/
noncomputable def addF (L : List ByteArray) (s : Int) (F : ByteArray → Int) : ByteArray → Int := fun x => if x ∈ L then s else F x
open Classical in
set_option maxHeartbeats 16000000 in
set_option maxRecDepth 100000 in
theorem sAdd_n (bm n0 : Nat) (F : ByteArray → Int) (k : Int) (pn : Option Addr) (nn cn : Nat) (e1 : Int) (e2 : ByteArray) (e3 : Bool) (p1 : Option Addr) (n1 c1 : Nat) (p2 : Option Addr) (n2 c2 : Nat) (p3 : Option Addr) (n3 c3 : Nat) (e7 : Int) (o9 : Int) (L : List ByteArray) (w : World) (hM : MapS w bm n0 F) (h : NRd w pn nn cn L) (hs : ∀ i (hi : i < L.length), (L[i]).size ≤ maxLen) (hn : n0 + nn ≤ 1000000) (h0 : L ≠ [] → sortD k ≠ 0) (hne : ∀ a, pn = some a → 0 < nn → a.block ≠ bm) :
    Calls Tryz.prog 15 #[.map (some bm), .agg #[.int .i64 k, .slice pn nn cn, .int .i64 e1, .string e2, .bool e3, .slice p1 n1 c1, .slice p2 n2 c2, .slice p3 n3 c3, .int .i64 e7, .int .i64 o9]] w fun e w' => e = .returned (.tuple #[]) ∧ w.grownBy w' (some bm) ∧ MapS w' bm (n0 + nn) (addF L (sortD k) F) := by
  have hl := h.len
  have hc := SRd.cap h
  have hm := SRd.max h
  have hbm := hM.lt
  have HW := hid (World.grownBy_alloc w (.cells #[.int .i64 k, .slice pn nn cn, .int .i64 e1, .string e2, .bool e3, .slice p1 n1 c1, .slice p2 n2 c2, .slice p3 n3 c3, .int .i64 e7, .int .i64 o9] 46 (0, 0)) none)
  have hM0 := hM.keep HW.out
  have h1 : NRd _ pn nn cn L := h.keep HW.out
  obtain ⟨⟨k0, k1, -⟩, -⟩ := box10' (blk0 w (.cells #[.int .i64 k, .slice pn nn cn, .int .i64 e1, .string e2, .bool e3, .slice p1 n1 c1, .slice p2 n2 c2, .slice p3 n3 c3, .int .i64 e7, .int .i64 o9] 46 (0, 0)))
  have H := hid h1
  have HS := hid hs
  have HM := hid hM0
  have HN := hid hne
  have H0 := hid h0
  have HSO := hid fun w => sSortOf_any k w
  have HWF := hid (sortD_wf k)
  clear h hs hM hne hM0 h1 h0
  generalize sortD k = s at *
  go_enter Tryz.func15, Tryz.ntmps15
  go_upto_region 1 with fail
  have HSZ : Hid ((w.alloc (.cells #[.int .i64 k, .slice pn nn cn, .int .i64 e1, .string e2, .bool e3, .slice p1 n1 c1, .slice p2 n2 c2, .slice p3 n3 c3, .int .i64 e7, .int .i64 o9] 46 (0, 0))).heap.size = w.heap.size + 1) := hid (by simp)
  generalize (w.alloc _) = w0 at *
  go_wp2_with fail
  have K0 := hid k0
  have K1 := hid k1
  clear k0 k1
  go_loopw [9] (fun y wr => ∃ j : Nat, j ≤ nn ∧ y = .int .i64 j ∧ w0.grownBy wr (some bm) ∧ MapS wr bm (n0 + j) (addF (L.take j) s F)) (fun y _ => nn - (intOf y).toNat)
  case atStart => exact ⟨0, Nat.zero_le _, rfl, grown_refl _ _, by rw [show addF (L.take 0) s F = F from by funext x; simp [addF]]; simpa using HM.out⟩
  case round =>
    obtain ⟨j, hj, rfl, hg, hMj⟩ := hrel
    by_cases hlt : j < nn
    · have k0 := hg.cell K0.out (by simp; omega)
      have hkL : j < L.length := by omega
      obtain ⟨bA, oA, rfl, c0⟩ := NRd.at1 (show NRd wr pn nn cn L from SRd.kept H.out hg (.inr fun a ha => by have := HN.out a ha (by omega); simpa using this)) (i := j) (by omega)
      have hsz := HS.out j (by omega)
      have hs0 : s ≠ 0 := H0.out (by intro e; rw [e] at hkL; simp at hkL)
      obtain ⟨d, hd⟩ : ∃ d, d = L[j]'hkL := ⟨_, rfl⟩
      rw [← hd] at c0 hsz
      have HD := hid hd
      have HG := hid hg
      have HMJ := hid hMj
      have HSZ2 := hid hsz
      have HS0 := hid hs0
      clear hd hg hMj hsz hs0
      go_wp2_with (go_at_call 27; refine (HSO.out _).mono ?_; rintro e w1 ⟨rfl, hg1⟩; have HG1 := hid hg1; obtain ⟨w2, hrun, hg2, hM2⟩ := (HMJ.out.keep hg1).put d HSZ2.out s HWF.out HS0.out (by omega); have HG2 := hid hg2; have HM2 := hid hM2; clear hg1 hg2 hM2)
      refine ⟨⟨j + 1, by omega, by go_num, ?_, ?_⟩, by simp [intOf]; omega⟩
      · exact grown_trans (grown_trans HG.out (grown_any HG1.out _)) HG2.out
      · have := HM2.out
        rw [show (fun x => if x = d then s else addF (L.take j) s F x) = addF (L.take (j + 1)) s F from by
          funext x
          have e1 : x ∈ L.take (j + 1) ↔ x ∈ L.take j ∨ x = d := by rw [HD.out]; exact take_mem hkL
          show (if x = d then s else if x ∈ L.take j then s else F x) = if x ∈ L.take (j + 1) then s else F x
          by_cases e : x = d
          · rw [if_pos e, if_pos (e1.2 (.inr e))]
          · rw [if_neg e]
            by_cases e2 : x ∈ L.take j
            · rw [if_pos e2, if_pos (e1.2 (.inl e2))]
            · rw [if_neg e2, if_neg (fun h => (e1.1 h).elim e2 e)]] at this
        exact this
    · obtain rfl : j = nn := by omega
      have HG := hid hg
      have HMJ := hid hMj
      clear hg hMj
      go_wp2_with fail
      go_end0
      refine ⟨rfl, ?_, ?_⟩
      · exact grown_trans (grown_any HW.out _) HG.out
      · have := HMJ.out
        rwa [List.take_of_length_le (by omega)] at this
end Go.Proofs.YtbioamglnndofaaGreatDoor

set_option linter.unusedVariables false
set_option linter.unusedSimpArgs false
namespace Go.Proofs.YtbioamglnndofaaGreatDoor
open Go.RowKit _root_.Nm Ax Lx
/-- the first error of three -/
def or3 (X U V : Int) : Int := if X = 0 then (if U = 0 then V else U) else X
set_option maxHeartbeats 16000000 in
set_option maxRecDepth 100000 in
theorem sCheck_n (bm : Nat) (k : Int) (pn : Option Addr) (nn cn : Nat) (e1 : Int) (e2 : ByteArray) (e3 : Bool) (p1 : Option Addr) (n1 c1 : Nat) (p2 : Option Addr) (n2 c2 : Nat) (p3 : Option Addr) (n3 c3 : Nat) (e7 : Int) (o9 : Int) (X U V : Int) (w : World)
    (hX : ∀ W, w.grownBy W none → Calls Tryz.prog 43 #[.agg #[.int .i64 k, .slice pn nn cn, .int .i64 e1, .string e2, .bool e3, .slice p1 n1 c1, .slice p2 n2 c2, .slice p3 n3 c3, .int .i64 e7, .int .i64 o9]] W fun e w' => e = .returned (.int .i64 X) ∧ W.grownBy w' none)
    (hU : X = 0 → ∀ W, w.grownBy W none → Calls Tryz.prog 25 #[.map (some bm), .agg #[.int .i64 e1, .string e2, .bool e3, .slice p1 n1 c1, .slice p2 n2 c2, .slice p3 n3 c3, .int .i64 e7]] W fun e w' => e = .returned (.int .i64 U) ∧ W.grownBy w' none)
    (hV : X = 0 → ∀ W, w.grownBy W none → Calls Tryz.prog 26 #[.map (some bm), .slice pn nn cn] W fun e w' => e = .returned (.int .i64 V) ∧ W.grownBy w' none) :
    Calls Tryz.prog 14 #[.map (some bm), .agg #[.int .i64 k, .slice pn nn cn, .int .i64 e1, .string e2, .bool e3, .slice p1 n1 c1, .slice p2 n2 c2, .slice p3 n3 c3, .int .i64 e7, .int .i64 o9]] w fun e w' => e = .returned (.int .i64 (or3 X U V)) ∧ w.grownBy w' none := by
  have hW := World.grownBy_alloc w (.cells #[.int .i64 k, .slice pn nn cn, .int .i64 e1, .string e2, .bool e3, .slice p1 n1 c1, .slice p2 n2 c2, .slice p3 n3 c3, .int .i64 e7, .int .i64 o9] 46 (0, 0)) none
  obtain ⟨⟨k0, k1, k2, k3, k4, k5, k6, k7, k8, k9⟩, -⟩ := box10' (blk0 w (.cells #[.int .i64 k, .slice pn nn cn, .int .i64 e1, .string e2, .bool e3, .slice p1 n1 c1, .slice p2 n2 c2, .slice p3 n3 c3, .int .i64 e7, .int .i64 o9] 46 (0, 0)))
  obtain ⟨r, hr⟩ : ∃ r, scanP (fun _ => X) 0 1 = r := ⟨_, rfl⟩
  have HCP : Hid (∀ W G, w.grownBy W none → W.heap[G]? = some (.cells #[.int .i64 k, .slice pn nn cn, .int .i64 e1, .string e2, .bool e3, .slice p1 n1 c1, .slice p2 n2 c2, .slice p3 n3 c3, .int .i64 e7, .int .i64 o9] 46 (0, 0)) → Calls Tryz.prog 24 #[.agg #[.slice (some ⟨G, 0, none⟩) 1 1]] W fun e w' => e = .returned (.tuple #[.int .i64 r.1, .int .i64 r.2]) ∧ W.grownBy w' none) := hid fun W G hG hb => by
    obtain ⟨⟨b0, b1, b2, b3, b4, b5, b6, b7, b8, b9⟩, -⟩ := box10' hb
    exact checkProgram_n (some ⟨G, 0, none⟩) 1 1 (fun _ => [.int .i64 k, .slice pn nn cn, .int .i64 e1, .string e2, .bool e3, .slice p1 n1 c1, .slice p2 n2 c2, .slice p3 n3 c3, .int .i64 e7, .int .i64 o9]) (fun _ => X) W ⟨Nat.le_refl _, by omega⟩ (fun i hi => by
      obtain rfl : i = 0 := by omega
      exact ⟨G, 0, k, pn, nn, cn, e1, e2, e3, p1, n1, c1, p2, n2, c2, p3, n3, c3, e7, o9, rfl, rfl, b0, b1, b2, b3, b4, b5, b6, b7, b8, b9⟩) (fun i hi W' hW' => hX W' (grown_trans hG hW')) r hr
  have hr2 : r.2 = X := by
    rw [← hr]
    unfold scanP
    by_cases h : X = 0
    · rw [if_pos h]; exact h.symm
    · rw [if_neg h]
  rw [hr2] at HCP
  generalize r.1 = r1 at *
  have HU := hid hU
  have HV := hid hV
  clear hX hU hV hr2 hr
  unfold or3
  by_cases hx : X = 0
  · subst hx
    replace HU := hid (HU.out rfl)
    replace HV := hid (HV.out rfl)
    rw [if_pos rfl]
    by_cases hu : U = 0
    · subst hu
      rw [if_pos rfl]
      go_enter Tryz.func14, Tryz.ntmps14
      go_upto_region 1 with fail
      generalize (w.alloc _) = w0 at *
      go_wp2_with (first | (go_at_call 24; refine (HCP.out _ _ (grown_trans hW (World.grownBy_alloc _ _ _)) (blk0 _ _)).mono ?_; rintro e w1 ⟨rfl, hg0⟩; have hg := grown_trans (World.grownBy_alloc _ _ none) hg0; replace hW := grown_trans hW hg; replace k0 := hg.cell k0 (by simp); replace k1 := hg.cell k1 (by simp); replace k2 := hg.cell k2 (by simp); replace k3 := hg.cell k3 (by simp); replace k4 := hg.cell k4 (by simp); replace k5 := hg.cell k5 (by simp); replace k6 := hg.cell k6 (by simp); replace k7 := hg.cell k7 (by simp); replace k8 := hg.cell k8 (by simp); replace k9 := hg.cell k9 (by simp); clear hg0 hg) | (go_at_call 25; refine (HU.out _ hW).mono ?_; rintro e w1 ⟨rfl, hg⟩; replace hW := grown_trans hW hg; replace k0 := hg.cell k0 (by simp); replace k1 := hg.cell k1 (by simp); replace k2 := hg.cell k2 (by simp); replace k3 := hg.cell k3 (by simp); replace k4 := hg.cell k4 (by simp); replace k5 := hg.cell k5 (by simp); replace k6 := hg.cell k6 (by simp); replace k7 := hg.cell k7 (by simp); replace k8 := hg.cell k8 (by simp); replace k9 := hg.cell k9 (by simp); clear hg) | (go_at_call 26; refine (HV.out _ hW).mono ?_; rintro e w1 ⟨rfl, hg⟩; replace hW := grown_trans hW hg; clear hg))
      go_ret
      exact ⟨rfl, hW⟩
    · rw [if_neg hu]
      go_enter Tryz.func14, Tryz.ntmps14
      go_upto_region 1 with fail
      generalize (w.alloc _) = w0 at *
      go_wp2_with (first | (go_at_call 24; refine (HCP.out _ _ (grown_trans hW (World.grownBy_alloc _ _ _)) (blk0 _ _)).mono ?_; rintro e w1 ⟨rfl, hg0⟩; have hg := grown_trans (World.grownBy_alloc _ _ none) hg0; replace hW := grown_trans hW hg; replace k0 := hg.cell k0 (by simp); replace k1 := hg.cell k1 (by simp); replace k2 := hg.cell k2 (by simp); replace k3 := hg.cell k3 (by simp); replace k4 := hg.cell k4 (by simp); replace k5 := hg.cell k5 (by simp); replace k6 := hg.cell k6 (by simp); replace k7 := hg.cell k7 (by simp); replace k8 := hg.cell k8 (by simp); replace k9 := hg.cell k9 (by simp); clear hg0 hg) | (go_at_call 25; refine (HU.out _ hW).mono ?_; rintro e w1 ⟨rfl, hg⟩; replace hW := grown_trans hW hg; clear hg))
      go_ret
      exact ⟨rfl, hW⟩
  · rw [if_neg hx]
    go_enter Tryz.func14, Tryz.ntmps14
    go_upto_region 1 with fail
    generalize (w.alloc _) = w0 at *
    go_wp2_with (go_at_call 24; refine (HCP.out _ _ (grown_trans hW (World.grownBy_alloc _ _ _)) (blk0 _ _)).mono ?_; rintro e w1 ⟨rfl, hg0⟩; have hg := grown_trans (World.grownBy_alloc _ _ none) hg0; replace hW := grown_trans hW hg; clear hg0 hg)
    go_ret
    exact ⟨rfl, hW⟩
/-- a statement of a list in memory: its cells, its kind, its names, the tree of its expression -/
def StN (w : World) (p : Option Addr) (i : Nat) (cs : List Value) (k : Int) (L : List ByteArray) (m : Nat) (t : Tr) : Prop := ∃ (b o : Nat) (pn : Option Addr) (nn cn : Nat) (e1 : Int) (e2 : ByteArray) (e3 : Bool) (p1 : Option Addr) (n1 c1 : Nat) (p2 : Option Addr) (n2 c2 : Nat) (p3 : Option Addr) (n3 c3 : Nat) (e7 o9 : Int), p = some ⟨b, o, none⟩ ∧ cs = [.int .i64 k, .slice pn nn cn, .int .i64 e1, .string e2, .bool e3, .slice p1 n1 c1, .slice p2 n2 c2, .slice p3 n3 c3, .int .i64 e7, .int .i64 o9] ∧ (NRd w pn nn cn L ∧ (∀ i (hi : i < L.length), (L[i]).size ≤ maxLen) ∧ ERd w m [.int .i64 e1, .string e2, .bool e3, .slice p1 n1 c1, .slice p2 n2 c2, .slice p3 n3 c3, .int .i64 e7] t) ∧ w.cell? ⟨b, o + i * 10, none⟩ = some (.int .i64 k) ∧ w.cell? ⟨b, o + i * 10 + 1, none⟩ = some (.slice pn nn cn) ∧ w.cell? ⟨b, o + i * 10 + 2, none⟩ = some (.int .i64 e1) ∧ w.cell? ⟨b, o + i * 10 + 3, none⟩ = some (.string e2) ∧ w.cell? ⟨b, o + i * 10 + 4, none⟩ = some (.bool e3) ∧ w.cell? ⟨b, o + i * 10 + 5, none⟩ = some (.slice p1 n1 c1) ∧ w.cell? ⟨b, o + i * 10 + 6, none⟩ = some (.slice p2 n2 c2) ∧ w.cell? ⟨b, o + i * 10 + 7, none⟩ = some (.slice p3 n3 c3) ∧ w.cell? ⟨b, o + i * 10 + 8, none⟩ = some (.int .i64 e7) ∧ w.cell? ⟨b, o + i * 10 + 9, none⟩ = some (.int .i64 o9)
theorem StN.keep {w w' : World} {p : Option Addr} {i : Nat} {cs : List Value} {k : Int} {L : List ByteArray} {m : Nat} {t : Tr} (h : StN w p i cs k L m t) (hg : w.grownBy w' none) : StN w' p i cs k L m t := by
  obtain ⟨b, o, pn, nn, cn, e1, e2, e3, p1, n1, c1, p2, n2, c2, p3, n3, c3, e7, o9, h1, h2, ⟨h3, h4, h5⟩, a0, a1, a2, a3, a4, a5, a6, a7, a8, a9⟩ := h
  exact ⟨b, o, pn, nn, cn, e1, e2, e3, p1, n1, c1, p2, n2, c2, p3, n3, c3, e7, o9, h1, h2, ⟨h3.keep hg, h4, h5.keep hg⟩, hg.cell a0 (by simp), hg.cell a1 (by simp), hg.cell a2 (by simp), hg.cell a3 (by simp), hg.cell a4 (by simp), hg.cell a5 (by simp), hg.cell a6 (by simp), hg.cell a7 (by simp), hg.cell a8 (by simp), hg.cell a9 (by simp)⟩
/-- a slice that can be read lies in blocks that are there -/
theorem NRd.lt {w : World} {p : Option Addr} {n c : Nat} {L : List ByteArray} (h : NRd w p n c L) (hn : 0 < n) : ∀ a, p = some a → a.block < w.heap.size := by
  intro a ha
  obtain ⟨b, o, rfl, hc⟩ := h.at1 (i := 0) (by have := h.len; omega)
  cases ha
  exact World.block_lt_of_cell? _ _ hc
end Go.Proofs.YtbioamglnndofaaGreatDoor

set_option linter.unusedVariables false
set_option linter.unusedSimpArgs false
namespace Go.Proofs.YtbioamglnndofaaGreatDoor
open Go.RowKit _root_.Nm Ax Lx
set_option maxHeartbeats 16000000 in
set_option maxRecDepth 100000 in
theorem rDefined_n (p : Option Addr) (n c m : Nat) (C : Nat → List Value) (K : Nat → Int) (NL : Nat → List ByteArray) (G : Nat → Tr) (d : ByteArray) (w : World) (hc : n ≤ c ∧ c ≤ 9223372036854775807) (hS : ∀ i, i < n → StN w p i (C i) (K i) (NL i) m (G i)) (r : Int) (hr : defF K NL d 0 n = r) :
    Calls Tryz.prog 31 #[.slice p n c, .string d] w fun e w' => e = .returned (.int .i64 r) ∧ w.grownBy w' none := by
  have HS := hid hS
  have HR := hid hr
  obtain ⟨hnc, hcm⟩ := hc
  have HSO := hid fun k w => rSortOf19_any k w
  clear hS hr
  go_enter Tryz.func31, Tryz.ntmps31
  go_wp2_with fail
  go_loopw [9] (fun y wr => ∃ k : Nat, k ≤ n ∧ y = .int .i64 k ∧ w.grownBy wr none ∧ Hid (defF K NL d k (n - k) = r)) (fun y _ => n - (intOf y).toNat)
  case atStart => exact ⟨0, Nat.zero_le _, rfl, grown_refl _ _, hid HR.out⟩
  case round =>
    clear HR
    obtain ⟨k, hk, rfl, hg, hsc⟩ := hrel
    by_cases hlt : k < n
    · obtain ⟨b, o, pn, nn, cn, e1, e2, e3, p1, n1, c1, p2, n2, c2, p3, n3, c3, e7, o9, rfl, hck, ⟨hL, hNs, hE⟩, a0, a1, a2, a3, a4, a5, a6, a7, a8, a9⟩ := (HS.out k hlt).keep hg
      have hG1 := World.grownBy_alloc wr (.cells #[.int .i64 (K k), .slice pn nn cn, .int .i64 e1, .string e2, .bool e3, .slice p1 n1 c1, .slice p2 n2 c2, .slice p3 n3 c3, .int .i64 e7, .int .i64 o9] 46 (0, 0)) none
      obtain ⟨q, hq⟩ := ex_bool (d ∈ NL k)
      have HHas := hid (has_any pn nn cn (NL k) d q hq _ (hL.keep hG1))
      have HGG := hid (grown_trans hg hG1)
      have HQ := hid hq
      rw [show n - k = (n - (k + 1)) + 1 by omega] at hsc
      have HC1 := hid fun h : q = true => (show sortD (K k) = r from by have := hsc.out; rwa [defF_here (hq.1 h)] at this)
      have HC0 := hid fun h : q = false => (show Hid (defF K NL d (k + 1) (n - (k + 1)) = r) from hid (by have := hsc.out; rwa [defF_next (by rw [← hq]; simp [h])] at this))
      clear hG1 hE hL hNs hck hq hsc HQ
      generalize K k = kk at *
      obtain ⟨⟨i0, i1, i2, i3, i4, i5, i6, i7, i8, i9⟩, fa⟩ := box10' (blk0 wr (.cells #[.int .i64 0, .slice none 0 0, .int .i64 0, .string ⟨#[]⟩, .bool false, .slice none 0 0, .slice none 0 0, .slice none 0 0, .int .i64 0, .int .i64 0] 46 (0, 0)))
      have f0 := fa 0; have f1 := fa 1; have f2 := fa 2; have f3 := fa 3; have f4 := fa 4; have f5 := fa 5; have f6 := fa 6; have f7 := fa 7; have f8 := fa 8; have f9 := fa 9
      clear fa
      cases q
      · go_wp2_with (go_at_call 9; refine HHas.out.mono ?_; rintro e w2 ⟨rfl, hg2⟩)
        exact ⟨⟨k + 1, by omega, by go_num, grown_trans HGG.out hg2, HC0.out (by first | rfl | trivial)⟩, by simp [intOf]; omega⟩
      · obtain rfl := HC1.out rfl
        obtain ⟨⟨l0, -⟩, -⟩ := box10' (blk0 wr (.cells #[.int .i64 kk, .slice pn nn cn, .int .i64 e1, .string e2, .bool e3, .slice p1 n1 c1, .slice p2 n2 c2, .slice p3 n3 c3, .int .i64 e7, .int .i64 o9] 46 (0, 0)))
        go_wp2_with (first | (go_at_call 9; refine HHas.out.mono ?_; rintro e w2 ⟨rfl, hg2⟩; replace l0 := hg2.cell l0 (by simp)) | (go_at_call 17; refine (HSO.out _ _).mono ?_; rintro e w3 ⟨rfl, hg3⟩))
        go_ret
        exact ⟨rfl, grown_trans HGG.out (grown_trans hg2 hg3)⟩
    · obtain rfl : k = n := by omega
      obtain rfl : r = 0 := by
        have := hsc.out
        rw [Nat.sub_self] at this
        exact this.symm
      go_wp2_with fail
      go_ret
      exact ⟨rfl, hg⟩
set_option maxHeartbeats 16000000 in
set_option maxRecDepth 100000 in
theorem rUses_name (pL : Option Addr) (nL cL : Nat) (e2 : ByteArray) (e3 : Bool) (p1 : Option Addr) (n1 c1 : Nat) (p2 : Option Addr) (n2 c2 : Nat) (p3 : Option Addr) (n3 c3 : Nat) (e7 s q : Int) (w : World) (hD : ∀ W, w.grownBy W none → Calls Tryz.prog 31 #[.slice pL nL cL, .string e2] W fun e w' => e = .returned (.int .i64 q) ∧ W.grownBy w' none) :
    Calls Tryz.prog 29 #[.slice pL nL cL, .agg #[.int .i64 1, .string e2, .bool e3, .slice p1 n1 c1, .slice p2 n2 c2, .slice p3 n3 c3, .int .i64 e7], .int .i64 s] w fun e w' => e = .returned (.int .i64 (nmE q s)) ∧ w.grownBy w' none := by
  have hW := World.grownBy_alloc w (.cells #[.int .i64 1, .string e2, .bool e3, .slice p1 n1 c1, .slice p2 n2 c2, .slice p3 n3 c3, .int .i64 e7] 44 (0, 0)) none
  obtain ⟨⟨k0, k1, k2, k3, k4, k5, k6⟩, -⟩ := box7 (blk0 w (.cells #[.int .i64 1, .string e2, .bool e3, .slice p1 n1 c1, .slice p2 n2 c2, .slice p3 n3 c3, .int .i64 e7] 44 (0, 0)))
  have HD := hid hD
  clear hD
  unfold nmE fitD
  by_cases hq : q = 0
  · subst hq
    go_enter Tryz.func29, Tryz.ntmps29
    go_upto_region 1 with fail
    generalize (w.alloc _) = w0 at *
    go_wp2_with (go_at_call 31; refine (HD.out _ hW).mono ?_; rintro e w1 ⟨rfl, hg⟩; replace hW := grown_trans hW hg; clear hg)
    go_ret
    exact ⟨by simp, hW⟩
  · have hq0 : (q == 0) = false := by simpa using hq
    by_cases hs : s = 0
    · subst hs
      by_cases h1 : q = 1
      · subst h1
        go_enter Tryz.func29, Tryz.ntmps29
        go_upto_region 1 with fail
        generalize (w.alloc _) = w0 at *
        go_wp2_with (go_at_call 31; refine (HD.out _ hW).mono ?_; rintro e w1 ⟨rfl, hg⟩; replace hW := grown_trans hW hg; clear hg)
        go_ret
        exact ⟨by simp, hW⟩
      · have hq1 : (q == 1) = false := by simpa using h1
        go_enter Tryz.func29, Tryz.ntmps29
        go_upto_region 1 with fail
        generalize (w.alloc _) = w0 at *
        go_wp2_with (go_at_call 31; refine (HD.out _ hW).mono ?_; rintro e w1 ⟨rfl, hg⟩; replace hW := grown_trans hW hg; clear hg)
        go_ret
        exact ⟨by simp [hq, h1], hW⟩
    · have hs0 : (s == 0) = false := by simpa using hs
      have hs1 : (s != 0) = true := by simpa using hs
      by_cases h1 : q = s
      · subst h1
        have hq1 : (q != q) = false := by simp
        go_enter Tryz.func29, Tryz.ntmps29
        go_upto_region 1 with fail
        generalize (w.alloc _) = w0 at *
        go_wp2_with (go_at_call 31; refine (HD.out _ hW).mono ?_; rintro e w1 ⟨rfl, hg⟩; replace hW := grown_trans hW hg; clear hg)
        go_ret
        exact ⟨by simp [hq], hW⟩
      · have hq1 : (q != s) = true := by simpa using h1
        go_enter Tryz.func29, Tryz.ntmps29
        go_upto_region 1 with fail
        generalize (w.alloc _) = w0 at *
        go_wp2_with (go_at_call 31; refine (HD.out _ hW).mono ?_; rintro e w1 ⟨rfl, hg⟩; replace hW := grown_trans hW hg; clear hg)
        go_ret
        exact ⟨by simp [hq, h1, hs], hW⟩
set_option maxHeartbeats 16000000 in
set_option maxRecDepth 100000 in
theorem rUses_n (pL : Option Addr) (nL cL : Nat) (e1 : Int) (e2 : ByteArray) (e3 : Bool) (p1 : Option Addr) (n1 c1 : Nat) (p2 : Option Addr) (n2 c2 : Nat) (p3 : Option Addr) (n3 c3 : Nat) (e7 : Int) (s : Int) (w : World) (hk : e1 ≠ 1) (hn3 : n3 = (prm e1).length) (hc3 : n3 ≤ c3 ∧ c3 ≤ 9223372036854775807)
    (C : Nat → List Value) (X : Nat → Int) (hC : ∀ i, i < n3 → ArgAt w p3 i (C i))
    (hX : ∀ i (hi : i < n3) (hp : i < (prm e1).length), ∀ W, w.grownBy W none → Calls Tryz.prog 29 #[.slice pL nL cL, .agg (C i).toArray, .int .i64 ((prm e1)[i] : Nat)] W fun e w' => e = .returned (.int .i64 (X i)) ∧ W.grownBy w' none)
    (x : Int) (hx : scan X 0 n3 = x) :
    Calls Tryz.prog 29 #[.slice pL nL cL, .agg #[.int .i64 e1, .string e2, .bool e3, .slice p1 n1 c1, .slice p2 n2 c2, .slice p3 n3 c3, .int .i64 e7], .int .i64 s] w fun e w' => e = .returned (.int .i64 x) ∧ w.grownBy w' none := by
  have HP := hid fun w => rparams_any e1 w
  have HCC := hid hC
  have HX := hid hX
  have HXX := hid hx
  clear hC hX hx
  have hpl : (prm e1).length ≤ 6 := prm_len e1
  have hW := World.grownBy_alloc w (.cells #[.int .i64 e1, .string e2, .bool e3, .slice p1 n1 c1, .slice p2 n2 c2, .slice p3 n3 c3, .int .i64 e7] 44 (0, 0)) none
  obtain ⟨⟨k0, k1, k2, k3, k4, k5, k6⟩, -⟩ := box7 (blk0 w (.cells #[.int .i64 e1, .string e2, .bool e3, .slice p1 n1 c1, .slice p2 n2 c2, .slice p3 n3 c3, .int .i64 e7] 44 (0, 0)))
  generalize (prm e1) = pl at *
  subst hn3
  have hzk : (e1 == 1) = false := by simpa using hk
  go_enter Tryz.func29, Tryz.ntmps29
  go_upto_region 1 with fail
  generalize (w.alloc _) = w0 at *
  go_wp2_with fail
  clear hzk
  have HW2 := hid hW
  have K0 := hid k0
  clear k1 k2 k3 k4 k6 k0 k5 hW
  go_loopw [38] (fun y wr => ∃ k : Nat, k ≤ pl.length ∧ y = .int .i64 k ∧ w0.grownBy wr none ∧ Hid (scan X k (pl.length - k) = x)) (fun y _ => pl.length - (intOf y).toNat)
  case atStart => exact ⟨0, Nat.zero_le _, rfl, grown_refl _ _, hid HXX.out⟩
  case round =>
    clear HXX
    obtain ⟨k, hk9, rfl, hg, hsc⟩ := hrel
    by_cases hlt : k < pl.length
    · have hgw := grown_trans HW2.out hg
      have k0 := hg.cell K0.out (by simp)
      obtain ⟨bA, oA, x1, x2, x3, q1, m1, d1, q2, m2, d2, q3, m3, d3, x7, rfl, hck, a0, a1, a2, a3, a4, a5, a6⟩ := HCC.out k hlt
      replace a0 := hgw.cell a0 (by simp); replace a1 := hgw.cell a1 (by simp); replace a2 := hgw.cell a2 (by simp); replace a3 := hgw.cell a3 (by simp); replace a4 := hgw.cell a4 (by simp); replace a5 := hgw.cell a5 (by simp); replace a6 := hgw.cell a6 (by simp)
      have hG1 := World.grownBy_alloc wr (.cells #[.int .i64 x1, .string x2, .bool x3, .slice q1 m1 d1, .slice q2 m2 d2, .slice q3 m3 d3, .int .i64 x7] 44 (0, 0)) none
      have HC := hid fun w' (hg' : (wr.alloc (.cells #[.int .i64 x1, .string x2, .bool x3, .slice q1 m1 d1, .slice q2 m2 d2, .slice q3 m3 d3, .int .i64 x7] 44 (0, 0))).grownBy w' none) => HX.out k hlt hlt w' (grown_trans (grown_trans hgw hG1) hg')
      rw [hck] at HC
      rw [scan_step hlt] at hsc
      have HGG := hid (grown_trans hgw hG1)
      have HGQ := hid (grown_trans hg hG1)
      clear hck
      generalize X k = v at *
      obtain ⟨⟨o0, o1, o2, o3, o4, o5, o6⟩, f0, f1, f2, f3, f4, f5, f6⟩ := box7 (blk0 wr (zeroE 44))
      unfold zeroE at o0 o1 o2 o3 o4 o5 o6 f0 f1 f2 f3 f4 f5 f6
      go_upto_region 11 with fail
      clear o0 o1 o2 o3 o4 o5 o6 f0 f1 f2 f3 f4 f5 f6 a0 a1 a2 a3 a4 a5 a6
      obtain ⟨⟨a0, a1, a2, a3, a4, a5, a6⟩, -⟩ := box7 (blk0 wr (.cells #[.int .i64 x1, .string x2, .bool x3, .slice q1 m1 d1, .slice q2 m2 d2, .slice q3 m3 d3, .int .i64 x7] 44 (0, 0)))
      replace k0 := hG1.cell k0 (by simp)
      clear hG1
      generalize (wr.alloc _) = w5 at *
      generalize wr.heap.size = B5 at *
      have hgr := grown_refl w5 none
      by_cases hv : v = 0
      · subst hv
        rw [if_pos rfl] at hsc
        refine wp_region_noPanic ?_
        refine wp_region_held_drew (S := (fun w' => w'.cell? ⟨w.heap.size, 0, none⟩ = some (.int .i64 e1) ∧ w'.cell? ⟨B5, 0, none⟩ = some (.int .i64 x1) ∧ w'.cell? ⟨B5, 1, none⟩ = some (.string x2) ∧ w'.cell? ⟨B5, 2, none⟩ = some (.bool x3) ∧ w'.cell? ⟨B5, 3, none⟩ = some (.slice q1 m1 d1) ∧ w'.cell? ⟨B5, 4, none⟩ = some (.slice q2 m2 d2) ∧ w'.cell? ⟨B5, 5, none⟩ = some (.slice q3 m3 d3) ∧ w'.cell? ⟨B5, 6, none⟩ = some (.int .i64 x7) ∧ w5.grownBy w' none)) (by kernel_rfl) ?_ (fun hHeld => ?_)
        · ((try go_split_ands) <;> (repeat' apply And.intro) <;> (first | (with_reducible assumption) | (with_reducible refine (grown_drew _ none).cell ?_ (by simp); with_reducible assumption) | (with_reducible refine grown_trans ?_ (grown_drew _ none); with_reducible assumption)))
        (refine wpAnyH_take (i := 0) (oi := Oper.mk _ _ _ _ _ _) (v := ?_) rfl (by kernel_rfl) (by kernel_rfl) (by kernel_rfl) (fun _ _ _ h => h) (Or.inl ⟨by kernel_rfl, ?_⟩) (by assumption) ?_; rotate_left 1; focus (intro w hSw; (try dsimp only at hSw); (try obtain ⟨q0, q1, q2, q3, q4, q5, q6, q7, q8⟩ := hSw); go_simp; (try (with_reducible rfl)); done); (try simp only [Act.put, List.setIfInBounds_toArray, List.set_cons_zero, List.set_cons_succ]))
        (refine wpAnyH_take (i := 1) (oi := Oper.mk _ _ _ _ _ _) (v := ?_) rfl (by kernel_rfl) (by kernel_rfl) (by kernel_rfl) (fun _ _ _ h => h) (Or.inl ⟨by kernel_rfl, ?_⟩) (by assumption) ?_; rotate_left 1; focus (intro w hSw; (try dsimp only at hSw); (try obtain ⟨q0, q1, q2, q3, q4, q5, q6, q7, q8⟩ := hSw); go_simp; (try (with_reducible rfl)); done); (try simp only [Act.put, List.setIfInBounds_toArray, List.set_cons_zero, List.set_cons_succ]))
        (refine wpAnyH_take (i := 2) (oi := Oper.mk _ _ _ _ _ _) (v := ?_) rfl (by kernel_rfl) (by kernel_rfl) (by kernel_rfl) (fun _ _ _ h => h) (Or.inl ⟨by kernel_rfl, ?_⟩) (by assumption) ?_; rotate_left 1; focus (intro w hSw; (try dsimp only at hSw); (try obtain ⟨q0, q1, q2, q3, q4, q5, q6, q7, q8⟩ := hSw); go_simp; (try (with_reducible rfl)); done); (try simp only [Act.put, List.setIfInBounds_toArray, List.set_cons_zero, List.set_cons_succ]))
        (refine wpAnyH_take (i := 3) (oi := Oper.mk _ _ _ _ _ _) (v := ?_) rfl (by kernel_rfl) (by kernel_rfl) (by kernel_rfl) (fun _ _ _ h => h) (Or.inl ⟨by kernel_rfl, ?_⟩) (by assumption) ?_; rotate_left 1; focus (intro w hSw; (try dsimp only at hSw); (try obtain ⟨q0, q1, q2, q3, q4, q5, q6, q7, q8⟩ := hSw); go_simp; (try (with_reducible rfl)); done); (try simp only [Act.put, List.setIfInBounds_toArray, List.set_cons_zero, List.set_cons_succ]))
        (refine wpAnyH_take (i := 5) (oi := Oper.mk _ _ _ _ _ _) (v := ?_) rfl (by kernel_rfl) (by kernel_rfl) (by kernel_rfl) (fun _ _ _ h => h) (Or.inl ⟨by kernel_rfl, ?_⟩) (by assumption) ?_; rotate_left 1; focus (intro w hSw; (try dsimp only at hSw); (try obtain ⟨q0, q1, q2, q3, q4, q5, q6, q7, q8⟩ := hSw); go_simp; (try (with_reducible rfl)); done); (try simp only [Act.put, List.setIfInBounds_toArray, List.set_cons_zero, List.set_cons_succ]))
        refine wpAnyH_ready (rs := [4]) (by kernel_rfl) (by simp) ?_
        refine AllReadyH.cons (o := Oper.mk _ _ _ _ _ _) rfl (fun K hK => ?_) AllReadyH.nil
        (try rw [if_pos (by kernel_rfl)])
        (first | (go_at_call 49; (with_reducible refine (HP.out _).mono ?_); rintro e v3 ⟨pp, nn, cc, rfl, hfr, hrd, hg3⟩; obtain rfl := hrd.len; obtain ⟨bP, oP, rfl, cP⟩ := hrd.cel k hlt; have hcc := hrd.cap; have hcm := hrd.max; (first | replace hgr := grown_trans hgr hg3 | replace hgr := grown_trans (grown_trans hgr (grown_drew _ none)) hg3); replace k0 := hg3.cell k0 (by simp); replace a0 := hg3.cell a0 (by simp); replace a1 := hg3.cell a1 (by simp); replace a2 := hg3.cell a2 (by simp); replace a3 := hg3.cell a3 (by simp); replace a4 := hg3.cell a4 (by simp); replace a5 := hg3.cell a5 (by simp); replace a6 := hg3.cell a6 (by simp); clear hfr hrd hg3) | (go_simp; (go_at_call 49; (with_reducible refine (HP.out _).mono ?_); rintro e v3 ⟨pp, nn, cc, rfl, hfr, hrd, hg3⟩; obtain rfl := hrd.len; obtain ⟨bP, oP, rfl, cP⟩ := hrd.cel k hlt; have hcc := hrd.cap; have hcm := hrd.max; (first | replace hgr := grown_trans hgr hg3 | replace hgr := grown_trans (grown_trans hgr (grown_drew _ none)) hg3); replace k0 := hg3.cell k0 (by simp); replace a0 := hg3.cell a0 (by simp); replace a1 := hg3.cell a1 (by simp); replace a2 := hg3.cell a2 (by simp); replace a3 := hg3.cell a3 (by simp); replace a4 := hg3.cell a4 (by simp); replace a5 := hg3.cell a5 (by simp); replace a6 := hg3.cell a6 (by simp); clear hfr hrd hg3)))
        refine hK.out _ _ ?_ (fun hNew => ?_)
        · (try dsimp only)
          ((try go_split_ands) <;> (repeat' apply And.intro) <;> (first | (with_reducible assumption) | (with_reducible refine (grown_drew _ none).cell ?_ (by simp); with_reducible assumption) | (with_reducible refine grown_trans ?_ (grown_drew _ none); with_reducible assumption)))
        clear hK K hHeld
        have hHeld := hNew
        clear hNew
        (try simp only [Act.put, List.setIfInBounds_toArray, List.set_cons_zero, List.set_cons_succ])
        (refine wpAnyH_take (i := 6) (oi := Oper.mk _ _ _ _ _ _) (v := ?_) rfl (by kernel_rfl) (by kernel_rfl) (by kernel_rfl) (fun _ _ _ h => h) (Or.inl ⟨by kernel_rfl, ?_⟩) (by assumption) ?_; rotate_left 1; focus (intro w hSw; (try dsimp only at hSw); (try obtain ⟨q0, q1, q2, q3, q4, q5, q6, q7, q8⟩ := hSw); go_simp; (try (with_reducible rfl)); done); (try simp only [Act.put, List.setIfInBounds_toArray, List.set_cons_zero, List.set_cons_succ]))
        refine wpAnyH_ready (rs := [7]) (by kernel_rfl) (by simp) ?_
        refine AllReadyH.cons (o := Oper.mk _ _ _ _ _ _) rfl (fun K hK => ?_) AllReadyH.nil
        (try rw [if_pos (by kernel_rfl)])
        go_simp
        refine hK.out _ _ ?_ (fun hNew => ?_)
        · (try dsimp only)
          ((try go_split_ands) <;> (repeat' apply And.intro) <;> (first | (with_reducible assumption) | (with_reducible refine (grown_drew _ none).cell ?_ (by simp); with_reducible assumption) | (with_reducible refine grown_trans ?_ (grown_drew _ none); with_reducible assumption)))
        clear hK K hHeld
        have hHeld := hNew
        clear hNew
        (try simp only [Act.put, List.setIfInBounds_toArray, List.set_cons_zero, List.set_cons_succ])
        refine wpAnyH_ready (rs := [8]) (by kernel_rfl) (by simp) ?_
        refine AllReadyH.cons (o := Oper.mk _ _ _ _ _ _) rfl (fun K hK => ?_) AllReadyH.nil
        (try rw [if_pos (by kernel_rfl)])
        (first | (go_at_call 29; (first | with_reducible refine (HC.out _ hgr).mono ?_ | with_reducible refine (HC.out _ (grown_trans hgr (grown_drew _ none))).mono ?_); rintro e v4 ⟨rfl, hg3⟩; (first | replace hgr := grown_trans hgr hg3 | replace hgr := grown_trans (grown_trans hgr (grown_drew _ none)) hg3); replace k0 := hg3.cell k0 (by simp); replace a0 := hg3.cell a0 (by simp); replace a1 := hg3.cell a1 (by simp); replace a2 := hg3.cell a2 (by simp); replace a3 := hg3.cell a3 (by simp); replace a4 := hg3.cell a4 (by simp); replace a5 := hg3.cell a5 (by simp); replace a6 := hg3.cell a6 (by simp); clear hg3) | (go_simp; (go_at_call 29; (first | with_reducible refine (HC.out _ hgr).mono ?_ | with_reducible refine (HC.out _ (grown_trans hgr (grown_drew _ none))).mono ?_); rintro e v4 ⟨rfl, hg3⟩; (first | replace hgr := grown_trans hgr hg3 | replace hgr := grown_trans (grown_trans hgr (grown_drew _ none)) hg3); replace k0 := hg3.cell k0 (by simp); replace a0 := hg3.cell a0 (by simp); replace a1 := hg3.cell a1 (by simp); replace a2 := hg3.cell a2 (by simp); replace a3 := hg3.cell a3 (by simp); replace a4 := hg3.cell a4 (by simp); replace a5 := hg3.cell a5 (by simp); replace a6 := hg3.cell a6 (by simp); clear hg3)))
        refine hK.out _ _ ?_ (fun hNew => ?_)
        · (try dsimp only)
          ((try go_split_ands) <;> (repeat' apply And.intro) <;> (first | (with_reducible assumption) | (with_reducible refine (grown_drew _ none).cell ?_ (by simp); with_reducible assumption) | (with_reducible refine grown_trans ?_ (grown_drew _ none); with_reducible assumption)))
        clear hK K hHeld
        have hHeld := hNew
        clear hNew
        (try simp only [Act.put, List.setIfInBounds_toArray, List.set_cons_zero, List.set_cons_succ])
        (refine wpAnyH_take (i := 9) (oi := Oper.mk _ _ _ _ _ _) (v := ?_) rfl (by kernel_rfl) (by kernel_rfl) (by kernel_rfl) (fun _ _ _ h => h) (Or.inl ⟨by kernel_rfl, ?_⟩) (by assumption) ?_; rotate_left 1; focus (intro w hSw; (try dsimp only at hSw); (try obtain ⟨q0, q1, q2, q3, q4, q5, q6, q7, q8⟩ := hSw); go_simp; (try (with_reducible rfl)); done); (try simp only [Act.put, List.setIfInBounds_toArray, List.set_cons_zero, List.set_cons_succ]))
        refine wpAnyH_done (by kernel_rfl) ?_ _
        refine NoPanic.normal ?_
        go_wp2_with fail
        exact ⟨⟨k + 1, by omega, by go_num, grown_trans HGQ.out hgr, hsc⟩, by simp [intOf]; omega⟩
      · rw [if_neg hv] at hsc
        obtain rfl := hsc.out
        refine wp_region_noPanic ?_
        refine wp_region_held_drew (S := (fun w' => w'.cell? ⟨w.heap.size, 0, none⟩ = some (.int .i64 e1) ∧ w'.cell? ⟨B5, 0, none⟩ = some (.int .i64 x1) ∧ w'.cell? ⟨B5, 1, none⟩ = some (.string x2) ∧ w'.cell? ⟨B5, 2, none⟩ = some (.bool x3) ∧ w'.cell? ⟨B5, 3, none⟩ = some (.slice q1 m1 d1) ∧ w'.cell? ⟨B5, 4, none⟩ = some (.slice q2 m2 d2) ∧ w'.cell? ⟨B5, 5, none⟩ = some (.slice q3 m3 d3) ∧ w'.cell? ⟨B5, 6, none⟩ = some (.int .i64 x7) ∧ w5.grownBy w' none)) (by kernel_rfl) ?_ (fun hHeld => ?_)
        · ((try go_split_ands) <;> (repeat' apply And.intro) <;> (first | (with_reducible assumption) | (with_reducible refine (grown_drew _ none).cell ?_ (by simp); with_reducible assumption) | (with_reducible refine grown_trans ?_ (grown_drew _ none); with_reducible assumption)))
        (refine wpAnyH_take (i := 0) (oi := Oper.mk _ _ _ _ _ _) (v := ?_) rfl (by kernel_rfl) (by kernel_rfl) (by kernel_rfl) (fun _ _ _ h => h) (Or.inl ⟨by kernel_rfl, ?_⟩) (by assumption) ?_; rotate_left 1; focus (intro w hSw; (try dsimp only at hSw); (try obtain ⟨q0, q1, q2, q3, q4, q5, q6, q7, q8⟩ := hSw); go_simp; (try (with_reducible rfl)); done); (try simp only [Act.put, List.setIfInBounds_toArray, List.set_cons_zero, List.set_cons_succ]))
        (refine wpAnyH_take (i := 1) (oi := Oper.mk _ _ _ _ _ _) (v := ?_) rfl (by kernel_rfl) (by kernel_rfl) (by kernel_rfl) (fun _ _ _ h => h) (Or.inl ⟨by kernel_rfl, ?_⟩) (by assumption) ?_; rotate_left 1; focus (intro w hSw; (try dsimp only at hSw); (try obtain ⟨q0, q1, q2, q3, q4, q5, q6, q7, q8⟩ := hSw); go_simp; (try (with_reducible rfl)); done); (try simp only [Act.put, List.setIfInBounds_toArray, List.set_cons_zero, List.set_cons_succ]))
        (refine wpAnyH_take (i := 2) (oi := Oper.mk _ _ _ _ _ _) (v := ?_) rfl (by kernel_rfl) (by kernel_rfl) (by kernel_rfl) (fun _ _ _ h => h) (Or.inl ⟨by kernel_rfl, ?_⟩) (by assumption) ?_; rotate_left 1; focus (intro w hSw; (try dsimp only at hSw); (try obtain ⟨q0, q1, q2, q3, q4, q5, q6, q7, q8⟩ := hSw); go_simp; (try (with_reducible rfl)); done); (try simp only [Act.put, List.setIfInBounds_toArray, List.set_cons_zero, List.set_cons_succ]))
        (refine wpAnyH_take (i := 3) (oi := Oper.mk _ _ _ _ _ _) (v := ?_) rfl (by kernel_rfl) (by kernel_rfl) (by kernel_rfl) (fun _ _ _ h => h) (Or.inl ⟨by kernel_rfl, ?_⟩) (by assumption) ?_; rotate_left 1; focus (intro w hSw; (try dsimp only at hSw); (try obtain ⟨q0, q1, q2, q3, q4, q5, q6, q7, q8⟩ := hSw); go_simp; (try (with_reducible rfl)); done); (try simp only [Act.put, List.setIfInBounds_toArray, List.set_cons_zero, List.set_cons_succ]))
        (refine wpAnyH_take (i := 5) (oi := Oper.mk _ _ _ _ _ _) (v := ?_) rfl (by kernel_rfl) (by kernel_rfl) (by kernel_rfl) (fun _ _ _ h => h) (Or.inl ⟨by kernel_rfl, ?_⟩) (by assumption) ?_; rotate_left 1; focus (intro w hSw; (try dsimp only at hSw); (try obtain ⟨q0, q1, q2, q3, q4, q5, q6, q7, q8⟩ := hSw); go_simp; (try (with_reducible rfl)); done); (try simp only [Act.put, List.setIfInBounds_toArray, List.set_cons_zero, List.set_cons_succ]))
        refine wpAnyH_ready (rs := [4]) (by kernel_rfl) (by simp) ?_
        refine AllReadyH.cons (o := Oper.mk _ _ _ _ _ _) rfl (fun K hK => ?_) AllReadyH.nil
        (try rw [if_pos (by kernel_rfl)])
        (first | (go_at_call 49; (with_reducible refine (HP.out _).mono ?_); rintro e v3 ⟨pp, nn, cc, rfl, hfr, hrd, hg3⟩; obtain rfl := hrd.len; obtain ⟨bP, oP, rfl, cP⟩ := hrd.cel k hlt; have hcc := hrd.cap; have hcm := hrd.max; (first | replace hgr := grown_trans hgr hg3 | replace hgr := grown_trans (grown_trans hgr (grown_drew _ none)) hg3); replace k0 := hg3.cell k0 (by simp); replace a0 := hg3.cell a0 (by simp); replace a1 := hg3.cell a1 (by simp); replace a2 := hg3.cell a2 (by simp); replace a3 := hg3.cell a3 (by simp); replace a4 := hg3.cell a4 (by simp); replace a5 := hg3.cell a5 (by simp); replace a6 := hg3.cell a6 (by simp); clear hfr hrd hg3) | (go_simp; (go_at_call 49; (with_reducible refine (HP.out _).mono ?_); rintro e v3 ⟨pp, nn, cc, rfl, hfr, hrd, hg3⟩; obtain rfl := hrd.len; obtain ⟨bP, oP, rfl, cP⟩ := hrd.cel k hlt; have hcc := hrd.cap; have hcm := hrd.max; (first | replace hgr := grown_trans hgr hg3 | replace hgr := grown_trans (grown_trans hgr (grown_drew _ none)) hg3); replace k0 := hg3.cell k0 (by simp); replace a0 := hg3.cell a0 (by simp); replace a1 := hg3.cell a1 (by simp); replace a2 := hg3.cell a2 (by simp); replace a3 := hg3.cell a3 (by simp); replace a4 := hg3.cell a4 (by simp); replace a5 := hg3.cell a5 (by simp); replace a6 := hg3.cell a6 (by simp); clear hfr hrd hg3)))
        refine hK.out _ _ ?_ (fun hNew => ?_)
        · (try dsimp only)
          ((try go_split_ands) <;> (repeat' apply And.intro) <;> (first | (with_reducible assumption) | (with_reducible refine (grown_drew _ none).cell ?_ (by simp); with_reducible assumption) | (with_reducible refine grown_trans ?_ (grown_drew _ none); with_reducible assumption)))
        clear hK K hHeld
        have hHeld := hNew
        clear hNew
        (try simp only [Act.put, List.setIfInBounds_toArray, List.set_cons_zero, List.set_cons_succ])
        (refine wpAnyH_take (i := 6) (oi := Oper.mk _ _ _ _ _ _) (v := ?_) rfl (by kernel_rfl) (by kernel_rfl) (by kernel_rfl) (fun _ _ _ h => h) (Or.inl ⟨by kernel_rfl, ?_⟩) (by assumption) ?_; rotate_left 1; focus (intro w hSw; (try dsimp only at hSw); (try obtain ⟨q0, q1, q2, q3, q4, q5, q6, q7, q8⟩ := hSw); go_simp; (try (with_reducible rfl)); done); (try simp only [Act.put, List.setIfInBounds_toArray, List.set_cons_zero, List.set_cons_succ]))
        refine wpAnyH_ready (rs := [7]) (by kernel_rfl) (by simp) ?_
        refine AllReadyH.cons (o := Oper.mk _ _ _ _ _ _) rfl (fun K hK => ?_) AllReadyH.nil
        (try rw [if_pos (by kernel_rfl)])
        go_simp
        refine hK.out _ _ ?_ (fun hNew => ?_)
        · (try dsimp only)
          ((try go_split_ands) <;> (repeat' apply And.intro) <;> (first | (with_reducible assumption) | (with_reducible refine (grown_drew _ none).cell ?_ (by simp); with_reducible assumption) | (with_reducible refine grown_trans ?_ (grown_drew _ none); with_reducible assumption)))
        clear hK K hHeld
        have hHeld := hNew
        clear hNew
        (try simp only [Act.put, List.setIfInBounds_toArray, List.set_cons_zero, List.set_cons_succ])
        refine wpAnyH_ready (rs := [8]) (by kernel_rfl) (by simp) ?_
        refine AllReadyH.cons (o := Oper.mk _ _ _ _ _ _) rfl (fun K hK => ?_) AllReadyH.nil
        (try rw [if_pos (by kernel_rfl)])
        (first | (go_at_call 29; (first | with_reducible refine (HC.out _ hgr).mono ?_ | with_reducible refine (HC.out _ (grown_trans hgr (grown_drew _ none))).mono ?_); rintro e v4 ⟨rfl, hg3⟩; (first | replace hgr := grown_trans hgr hg3 | replace hgr := grown_trans (grown_trans hgr (grown_drew _ none)) hg3); replace k0 := hg3.cell k0 (by simp); replace a0 := hg3.cell a0 (by simp); replace a1 := hg3.cell a1 (by simp); replace a2 := hg3.cell a2 (by simp); replace a3 := hg3.cell a3 (by simp); replace a4 := hg3.cell a4 (by simp); replace a5 := hg3.cell a5 (by simp); replace a6 := hg3.cell a6 (by simp); clear hg3) | (go_simp; (go_at_call 29; (first | with_reducible refine (HC.out _ hgr).mono ?_ | with_reducible refine (HC.out _ (grown_trans hgr (grown_drew _ none))).mono ?_); rintro e v4 ⟨rfl, hg3⟩; (first | replace hgr := grown_trans hgr hg3 | replace hgr := grown_trans (grown_trans hgr (grown_drew _ none)) hg3); replace k0 := hg3.cell k0 (by simp); replace a0 := hg3.cell a0 (by simp); replace a1 := hg3.cell a1 (by simp); replace a2 := hg3.cell a2 (by simp); replace a3 := hg3.cell a3 (by simp); replace a4 := hg3.cell a4 (by simp); replace a5 := hg3.cell a5 (by simp); replace a6 := hg3.cell a6 (by simp); clear hg3)))
        refine hK.out _ _ ?_ (fun hNew => ?_)
        · (try dsimp only)
          ((try go_split_ands) <;> (repeat' apply And.intro) <;> (first | (with_reducible assumption) | (with_reducible refine (grown_drew _ none).cell ?_ (by simp); with_reducible assumption) | (with_reducible refine grown_trans ?_ (grown_drew _ none); with_reducible assumption)))
        clear hK K hHeld
        have hHeld := hNew
        clear hNew
        (try simp only [Act.put, List.setIfInBounds_toArray, List.set_cons_zero, List.set_cons_succ])
        (refine wpAnyH_take (i := 9) (oi := Oper.mk _ _ _ _ _ _) (v := ?_) rfl (by kernel_rfl) (by kernel_rfl) (by kernel_rfl) (fun _ _ _ h => h) (Or.inl ⟨by kernel_rfl, ?_⟩) (by assumption) ?_; rotate_left 1; focus (intro w hSw; (try dsimp only at hSw); (try obtain ⟨q0, q1, q2, q3, q4, q5, q6, q7, q8⟩ := hSw); go_simp; (try (with_reducible rfl)); done); (try simp only [Act.put, List.setIfInBounds_toArray, List.set_cons_zero, List.set_cons_succ]))
        refine wpAnyH_done (by kernel_rfl) ?_ _
        refine NoPanic.normal ?_
        go_wp2_with fail
        go_ret
        exact ⟨rfl, grown_trans HGG.out hgr⟩
    · obtain rfl : k = pl.length := by omega
      obtain rfl : x = 0 := by
        have := hsc.out
        rw [Nat.sub_self] at this
        exact this.symm
      go_wp2_with fail
      go_ret
      exact ⟨rfl, grown_trans HW2.out hg⟩
end Go.Proofs.YtbioamglnndofaaGreatDoor

set_option linter.unusedVariables false
set_option linter.unusedSimpArgs false
namespace Go.Proofs.YtbioamglnndofaaGreatDoor
open Go.RowKit _root_.Nm Ax Lx
theorem getD_at (l : List Tr) (i : Nat) (hi : i < l.length) : l.getD i zeroT = l[i] := by
  rw [List.getD_eq_getElem?_getD, List.getElem?_eq_getElem hi]
  rfl
theorem getD_nat (l : List Nat) (i : Nat) (hi : i < l.length) : l.getD i 0 = l[i] := by
  rw [List.getD_eq_getElem?_getD, List.getElem?_eq_getElem hi]
  rfl
theorem sArgs_any (bm n : Nat) (F : ByteArray → Int) : ∀ (m : Nat) (cs : List Value) (t : Tr) (w : World), MapS w bm n F → ERd w m cs t → WfT m t →
    Calls Tryz.prog 25 #[.map (some bm), .agg cs.toArray] w fun e w' => e = .returned (.int .i64 (usA F m t)) ∧ w.grownBy w' none
  | 0, _, _, _, _, h, _ => h.elim
  | m + 1, cs, .node h l, w, hM, hE, hWf => by
    obtain ⟨e1, e2, e3, p1, n1, c1, p2, n2, c2, p3, n3, c3, e7, rfl⟩ := hE.shape
    obtain ⟨⟨r1, r2, r3, r7⟩, hn, hd, hA, hnm⟩ := ARd.of hE
    obtain ⟨⟨hla, hca, hma⟩, _⟩ := id hA
    obtain ⟨f1, f2, f3, f4⟩ := hWf
    have hch : ∀ i (hi : i < n3), ∃ ci, ArgAt w p3 i ci ∧ ERd w m ci (l.getD i zeroT) := by
      intro i hi
      obtain ⟨b, o, x1, x2, x3, q1, m1, d1, q2, m2, d2, q3, m3, d3, x7, h1, hE2, a0, a1, a2, a3, a4, a5, a6⟩ := hA.at (i := i) (by omega)
      rw [getD_at l i (by omega)]
      exact ⟨_, ⟨b, o, x1, x2, x3, q1, m1, d1, q2, m2, d2, q3, m3, d3, x7, h1, rfl, a0, a1, a2, a3, a4, a5, a6⟩, hE2⟩
    obtain ⟨C, hC⟩ : ∃ C : Nat → List Value, ∀ i (hi : i < n3), ArgAt w p3 i (C i) ∧ ERd w m (C i) (l.getD i zeroT) :=
      ⟨fun i => if hi : i < n3 then Classical.choose (hch i hi) else [], fun i hi => by
        dsimp only
        rw [dif_pos hi]
        exact Classical.choose_spec (hch i hi)⟩
    refine sArgs_n bm e1 e2 e3 p1 n1 c1 p2 n2 c2 p3 n3 c3 e7 w (by rw [← hla, f1, r1]) ⟨hca, hma⟩ C (fun i => usE F m (l.getD i zeroT) ((prm h.k).getD i 0 : Nat)) (fun i hi => (hC i hi).1) (fun i hi hp W hW => ?_) _ (by show scan (fun i => usE F m (l.getD i zeroT) ((prm h.k).getD i 0 : Nat)) 0 l.length = _; rw [hla])
    have hE2 := (hC i hi).2.keep hW
    have hw2 := f4 i (by omega)
    rw [← getD_at l i (by omega)] at hw2
    subst r1
    rw [getD_nat _ i hp]
    generalize l.getD i zeroT = t' at *
    cases m with
    | zero => exact hE2.elim
    | succ m =>
    cases t' with
    | node h' l' =>
    obtain ⟨x1, x2, x3, q1, m1, d1, q2, m2, d2, q3, m3, d3, x7, hcs⟩ := hE2.shape
    rw [hcs] at hE2 ⊢
    obtain ⟨⟨s1, s2, _, _⟩, _, _, _, hnm2⟩ := ARd.of hE2
    by_cases hk : h'.k = 1
    · rw [usE_name F m h' l' _ hk]
      obtain rfl : x1 = 1 := by rw [s1, hk]
      rw [← s2]
      exact sArg_name bm n F x2 x3 q1 m1 d1 q2 m2 d2 q3 m3 d3 x7 _ W (hM.keep hW) hnm2
    · rw [usE_args F m h' l' _ hk]
      exact sArg_args bm x1 x2 x3 q1 m1 d1 q2 m2 d2 q3 m3 d3 x7 _ _ W (by rw [s1]; exact hk) fun W' hW' => sArgs_any bm n F (m + 1) _ _ W' (hM.keep (grown_trans hW hW')) (hE2.keep hW') hw2
/-- the reference's answers: what is defined -/
def DefOk (w : World) (pL : Option Addr) (nL cL : Nat) (F : ByteArray → Int) : Prop := ∀ d W, w.grownBy W none → Calls Tryz.prog 31 #[.slice pL nL cL, .string d] W fun e w' => e = .returned (.int .i64 (F d)) ∧ W.grownBy w' none
theorem DefOk.keep {w w' : World} {pL : Option Addr} {nL cL : Nat} {F : ByteArray → Int} (h : DefOk w pL nL cL F) (hg : w.grownBy w' none) : DefOk w' pL nL cL F := fun d W hW => h d W (grown_trans hg hW)
theorem rUses_any (pL : Option Addr) (nL cL : Nat) (F : ByteArray → Int) : ∀ (m : Nat) (cs : List Value) (t : Tr) (s : Int) (w : World), DefOk w pL nL cL F → ERd w m cs t → WfT m t →
    Calls Tryz.prog 29 #[.slice pL nL cL, .agg cs.toArray, .int .i64 s] w fun e w' => e = .returned (.int .i64 (usE F m t s)) ∧ w.grownBy w' none
  | 0, _, _, _, _, _, h, _ => h.elim
  | m + 1, cs, .node h l, s, w, hM, hE, hWf => by
    obtain ⟨e1, e2, e3, p1, n1, c1, p2, n2, c2, p3, n3, c3, e7, rfl⟩ := hE.shape
    obtain ⟨⟨r1, r2, r3, r7⟩, hn, hd, hA, hnm⟩ := ARd.of hE
    obtain ⟨⟨hla, hca, hma⟩, _⟩ := id hA
    obtain ⟨f1, f2, f3, f4⟩ := hWf
    by_cases hk : h.k = 1
    · rw [usE_name F m h l _ hk]
      obtain rfl : e1 = 1 := by rw [r1, hk]
      rw [← r2]
      exact rUses_name pL nL cL e2 e3 p1 n1 c1 p2 n2 c2 p3 n3 c3 e7 s _ w (hM e2)
    · rw [usE_args F m h l _ hk]
      have hch : ∀ i (hi : i < n3), ∃ ci, ArgAt w p3 i ci ∧ ERd w m ci (l.getD i zeroT) := by
        intro i hi
        obtain ⟨b, o, x1, x2, x3, q1, m1, d1, q2, m2, d2, q3, m3, d3, x7, h1, hE2, a0, a1, a2, a3, a4, a5, a6⟩ := hA.at (i := i) (by omega)
        rw [getD_at l i (by omega)]
        exact ⟨_, ⟨b, o, x1, x2, x3, q1, m1, d1, q2, m2, d2, q3, m3, d3, x7, h1, rfl, a0, a1, a2, a3, a4, a5, a6⟩, hE2⟩
      obtain ⟨C, hC⟩ : ∃ C : Nat → List Value, ∀ i (hi : i < n3), ArgAt w p3 i (C i) ∧ ERd w m (C i) (l.getD i zeroT) :=
        ⟨fun i => if hi : i < n3 then Classical.choose (hch i hi) else [], fun i hi => by
          dsimp only
          rw [dif_pos hi]
          exact Classical.choose_spec (hch i hi)⟩
      refine rUses_n pL nL cL e1 e2 e3 p1 n1 c1 p2 n2 c2 p3 n3 c3 e7 s w (by rw [r1]; exact hk) (by rw [← hla, f1, r1]) ⟨hca, hma⟩ C (fun i => usE F m (l.getD i zeroT) ((prm h.k).getD i 0 : Nat)) (fun i hi => (hC i hi).1) (fun i hi hp W hW => ?_) _ (by rw [← hla]; rfl)
      have hw2 := f4 i (by omega)
      rw [← getD_at l i (by omega)] at hw2
      subst r1
      rw [getD_nat _ i hp]
      exact rUses_any pL nL cL F m _ _ _ W (hM.keep hW) ((hC i hi).2.keep hW) hw2
theorem NRd.take {w : World} {p : Option Addr} {n c : Nat} {L : List ByteArray} (h : NRd w p n c L) {k : Nat} (hk : k ≤ n) : NRd w p k c (L.take k) := by
  have hl := h.len
  refine ⟨by simp; omega, fun r hr => ?_, Nat.le_trans hk (SRd.cap h), SRd.max h, fun i hi j hj => ?_⟩
  · obtain ⟨d, _, rfl⟩ := List.mem_map.1 hr
    rfl
  · simp at hi
    have := SRd.cel h i (by simp; omega) j (by simp at hj ⊢; exact hj)
    simpa using this
open Classical in
set_option maxHeartbeats 32000000 in
set_option maxRecDepth 100000 in
theorem rStatement_n (pL : Option Addr) (nL cL : Nat) (F : ByteArray → Int) (L : List ByteArray) (k : Int) (pn : Option Addr) (nn cn : Nat) (e1 : Int) (e2 : ByteArray) (e3 : Bool) (p1 : Option Addr) (n1 c1 : Nat) (p2 : Option Addr) (n2 c2 : Nat) (p3 : Option Addr) (n3 c3 : Nat) (e7 : Int) (o9 : Int) (X U V : Int) (w : World) (hL : NRd w pn nn cn L) (hDf : DefOk w pL nL cL F)
    (hX : ∀ W, w.grownBy W none → Calls Tryz.prog 28 #[.agg #[.int .i64 k, .slice pn nn cn, .int .i64 e1, .string e2, .bool e3, .slice p1 n1 c1, .slice p2 n2 c2, .slice p3 n3 c3, .int .i64 e7, .int .i64 o9]] W fun e w' => e = .returned (.int .i64 X) ∧ W.grownBy w' none)
    (hU : X = 0 → ∀ W, w.grownBy W none → Calls Tryz.prog 29 #[.slice pL nL cL, .agg #[.int .i64 e1, .string e2, .bool e3, .slice p1 n1 c1, .slice p2 n2 c2, .slice p3 n3 c3, .int .i64 e7], .int .i64 (sortS k)] W fun e w' => e = .returned (.int .i64 U) ∧ W.grownBy w' none)
    (hk1 : X = 0 → k = 1 → U = 0) (hV : newE F L = V) :
    Calls Tryz.prog 16 #[.slice pL nL cL, .agg #[.int .i64 k, .slice pn nn cn, .int .i64 e1, .string e2, .bool e3, .slice p1 n1 c1, .slice p2 n2 c2, .slice p3 n3 c3, .int .i64 e7, .int .i64 o9]] w fun e w' => e = .returned (.int .i64 (or3 X U V)) ∧ w.grownBy w' none := by
  have hl := hL.len
  have hcL := SRd.cap hL
  have hmL := SRd.max hL
  have hW := World.grownBy_alloc w (.cells #[.int .i64 k, .slice pn nn cn, .int .i64 e1, .string e2, .bool e3, .slice p1 n1 c1, .slice p2 n2 c2, .slice p3 n3 c3, .int .i64 e7, .int .i64 o9] 46 (0, 0)) none
  obtain ⟨⟨k0, k1, k2, k3, k4, k5, k6, k7, k8, k9⟩, -⟩ := box10' (blk0 w (.cells #[.int .i64 k, .slice pn nn cn, .int .i64 e1, .string e2, .bool e3, .slice p1 n1 c1, .slice p2 n2 c2, .slice p3 n3 c3, .int .i64 e7, .int .i64 o9] 46 (0, 0)))
  have HX := hid hX
  have HSS : Hid (∀ W, w.grownBy W none → _) := hid fun W _ => rStmtSort_any k W
  have HL := hid hL
  have HDF := hid hDf
  have HV := hid hV
  unfold or3
  by_cases hx : X = 0
  · subst hx
    rw [if_pos rfl]
    have HU := hid (hU rfl)
    have hk2 := hk1 rfl
    clear hX hU hk1 hV hL hDf
    generalize sortS k = ss at *
    have TAIL : Hid (∀ x : Int, x = (if U = 0 then V else U) → x = (if U = 0 then V else U)) := hid fun _ h => h
    by_cases hk : k = 1
    · obtain rfl := hk2 hk
      subst hk
      clear hk2
      rw [if_pos rfl]
      go_enter Tryz.func16, Tryz.ntmps16
      go_upto_region 1 with fail
      generalize (w.alloc _) = w0 at *
      go_wp2_with (go_at_call 28; (first | with_reducible refine (HX.out _ hW).mono ?_ | with_reducible refine (HX.out _ (grown_trans hW (grown_drew _ none))).mono ?_); rintro e w1 ⟨rfl, hg⟩; (first | replace hW := grown_trans hW hg | replace hW := grown_trans (grown_trans hW (grown_drew _ none)) hg); replace k0 := hg.cell k0 (by simp); replace k1 := hg.cell k1 (by simp); replace k2 := hg.cell k2 (by simp); replace k3 := hg.cell k3 (by simp); replace k4 := hg.cell k4 (by simp); replace k5 := hg.cell k5 (by simp); replace k6 := hg.cell k6 (by simp); replace k7 := hg.cell k7 (by simp); replace k8 := hg.cell k8 (by simp); replace k9 := hg.cell k9 (by simp); clear hg)
      have HW2 := hid hW
      have K1 := hid k1
      clear hW k0 k1 k2 k3 k4 k5 k6 k7 k8 k9 HX HU HSS TAIL
      go_loopw [30] (fun y wr => ∃ j : Nat, j ≤ nn ∧ y = .int .i64 j ∧ w.grownBy wr none ∧ wr.cell? ⟨w.heap.size, 1, none⟩ = some (.slice pn nn cn) ∧ ∀ i (hi : i < L.length), i < j → F L[i] = 0 ∧ ¬ L[i] ∈ L.take i) (fun y _ => nn - (intOf y).toNat)
      case atStart => exact ⟨0, Nat.zero_le _, rfl, (by first | exact HW2.out | exact grown_trans HW2.out (grown_drew _ none)), (by first | exact K1.out | exact (grown_drew _ none).cell K1.out (by simp)), fun i _ h => absurd h (Nat.not_lt_zero i)⟩
      case round =>
        clear HW2 K1
        obtain ⟨j, hj, rfl, hg, k1, hall⟩ := hrel
        have HALL := hid hall
        have HG := hid hg
        clear hall
        by_cases hlt : j < nn
        · obtain ⟨bA, oA, rfl, c0⟩ := NRd.at1 (HL.out.keep hg) (i := j) (by omega)
          have hkL : j < L.length := by omega
          have HDn := hid (HDF.out (L[j]'hkL) wr hg)
          obtain ⟨r, hr⟩ := ex_bool ((L[j]'hkL) ∈ L.take j)
          have HHas := hid fun w' (hg' : wr.grownBy w' none) => has_any (some ⟨bA, oA, none⟩) j cn (L.take j) (L[j]'hkL) r hr w' ((NRd.take HL.out (by omega)).keep (grown_trans hg hg'))
          obtain ⟨q, hq⟩ : ∃ q, q = F (L[j]'hkL) := ⟨_, rfl⟩
          rw [← hq] at HDn
          have HQ := hid hq
          have HR := hid hr
          obtain ⟨d, hd⟩ : ∃ d, d = L[j]'hkL := ⟨_, rfl⟩
          rw [← hd] at c0 HDn HHas
          clear hq hr hd hg
          by_cases hq0 : q = 0
          · subst hq0
            cases r
            · go_wp2_with (first | (go_at_call 31; refine HDn.out.mono ?_; rintro e w2 ⟨rfl, hg2⟩; have HG2 := hid hg2; replace k1 := hg2.cell k1 (by simp)) | (go_at_call 9; refine (HHas.out _ HG2.out).mono ?_; rintro e w3 ⟨rfl, hg3⟩; replace k1 := hg3.cell k1 (by simp)))
              refine ⟨⟨j + 1, by omega, by go_num, grown_trans HG.out (grown_trans HG2.out hg3), k1, fun i hi h => ?_⟩, by simp [intOf]; omega⟩
              rcases Nat.lt_or_eq_of_le (Nat.le_of_lt_succ h) with h | rfl
              · exact HALL.out i hi h
              · exact ⟨HQ.out.symm, by have := HR.out; simpa using this⟩
            · obtain rfl : V = 7 := by
                rw [← HV.out]
                unfold newE
                rw [if_neg]
                intro h9
                exact (h9 j hkL).2 (HR.out.1 rfl)
              go_wp2_with (first | (go_at_call 31; refine HDn.out.mono ?_; rintro e w2 ⟨rfl, hg2⟩; have HG2 := hid hg2; replace k1 := hg2.cell k1 (by simp)) | (go_at_call 9; refine (HHas.out _ HG2.out).mono ?_; rintro e w3 ⟨rfl, hg3⟩; replace k1 := hg3.cell k1 (by simp)))
              go_ret
              exact ⟨rfl, grown_trans HG.out (grown_trans HG2.out hg3)⟩
          · have hqb : (q != 0) = true := by simpa using hq0
            obtain rfl : V = 7 := by
              rw [← HV.out]
              unfold newE
              rw [if_neg]
              intro h9
              have := (h9 j hkL).1
              rw [← HQ.out] at this
              exact hq0 this
            go_wp2_with (go_at_call 31; refine HDn.out.mono ?_; rintro e w2 ⟨rfl, hg2⟩)
            go_ret
            exact ⟨rfl, grown_trans HG.out hg2⟩
        · obtain rfl : j = nn := by omega
          obtain rfl : V = 0 := by
            rw [← HV.out]
            unfold newE
            rw [if_pos]
            intro i hi
            exact HALL.out i hi (by omega)
          go_wp2_with fail
          go_ret
          exact ⟨rfl, HG.out⟩
    · have hkb : (k != 1) = true := by simpa using hk
      clear hk2
      by_cases hu : U = 0
      · subst hu
        rw [if_pos rfl]
        go_enter Tryz.func16, Tryz.ntmps16
        go_upto_region 1 with fail
        generalize (w.alloc _) = w0 at *
        go_upto_region 5 with (go_at_call 28; (first | with_reducible refine (HX.out _ hW).mono ?_ | with_reducible refine (HX.out _ (grown_trans hW (grown_drew _ none))).mono ?_); rintro e w1 ⟨rfl, hg⟩; (first | replace hW := grown_trans hW hg | replace hW := grown_trans (grown_trans hW (grown_drew _ none)) hg); replace k0 := hg.cell k0 (by simp); replace k1 := hg.cell k1 (by simp); replace k2 := hg.cell k2 (by simp); replace k3 := hg.cell k3 (by simp); replace k4 := hg.cell k4 (by simp); replace k5 := hg.cell k5 (by simp); replace k6 := hg.cell k6 (by simp); replace k7 := hg.cell k7 (by simp); replace k8 := hg.cell k8 (by simp); replace k9 := hg.cell k9 (by simp); clear hg)
        go_region_held3 (fun w' => w'.cell? ⟨w.heap.size, 0, none⟩ = some (.int .i64 k) ∧ w'.cell? ⟨w.heap.size, 1, none⟩ = some (.slice pn nn cn) ∧ w'.cell? ⟨w.heap.size, 2, none⟩ = some (.int .i64 e1) ∧ w'.cell? ⟨w.heap.size, 3, none⟩ = some (.string e2) ∧ w'.cell? ⟨w.heap.size, 4, none⟩ = some (.bool e3) ∧ w'.cell? ⟨w.heap.size, 5, none⟩ = some (.slice p1 n1 c1) ∧ w'.cell? ⟨w.heap.size, 6, none⟩ = some (.slice p2 n2 c2) ∧ w'.cell? ⟨w.heap.size, 7, none⟩ = some (.slice p3 n3 c3) ∧ w'.cell? ⟨w.heap.size, 8, none⟩ = some (.int .i64 e7) ∧ w'.cell? ⟨w.heap.size, 9, none⟩ = some (.int .i64 o9) ∧ w.grownBy w' none) ((try go_split_ands) <;> (repeat' apply And.intro) <;> (first | (with_reducible assumption) | (with_reducible refine (grown_drew _ none).cell ?_ (by simp); with_reducible assumption) | (with_reducible refine grown_trans ?_ (grown_drew _ none); with_reducible assumption))) (first | (go_at_call 30; (first | with_reducible refine (HSS.out _ hW).mono ?_ | with_reducible refine (HSS.out _ (grown_trans hW (grown_drew _ none))).mono ?_); rintro e w1 ⟨rfl, hg⟩; (first | replace hW := grown_trans hW hg | replace hW := grown_trans (grown_trans hW (grown_drew _ none)) hg); replace k0 := hg.cell k0 (by simp); replace k1 := hg.cell k1 (by simp); replace k2 := hg.cell k2 (by simp); replace k3 := hg.cell k3 (by simp); replace k4 := hg.cell k4 (by simp); replace k5 := hg.cell k5 (by simp); replace k6 := hg.cell k6 (by simp); replace k7 := hg.cell k7 (by simp); replace k8 := hg.cell k8 (by simp); replace k9 := hg.cell k9 (by simp); clear hg) | (go_at_call 29; (first | with_reducible refine (HU.out _ hW).mono ?_ | with_reducible refine (HU.out _ (grown_trans hW (grown_drew _ none))).mono ?_); rintro e w1 ⟨rfl, hg⟩; (first | replace hW := grown_trans hW hg | replace hW := grown_trans (grown_trans hW (grown_drew _ none)) hg); replace k0 := hg.cell k0 (by simp); replace k1 := hg.cell k1 (by simp); replace k2 := hg.cell k2 (by simp); replace k3 := hg.cell k3 (by simp); replace k4 := hg.cell k4 (by simp); replace k5 := hg.cell k5 (by simp); replace k6 := hg.cell k6 (by simp); replace k7 := hg.cell k7 (by simp); replace k8 := hg.cell k8 (by simp); replace k9 := hg.cell k9 (by simp); clear hg))
        go_wp2_with fail
        clear hkb hk
        have HW2 := hid hW
        have K1 := hid k1
        clear hW k0 k1 k2 k3 k4 k5 k6 k7 k8 k9 HX HU HSS TAIL
        go_loopw [30] (fun y wr => ∃ j : Nat, j ≤ nn ∧ y = .int .i64 j ∧ w.grownBy wr none ∧ wr.cell? ⟨w.heap.size, 1, none⟩ = some (.slice pn nn cn) ∧ ∀ i (hi : i < L.length), i < j → F L[i] = 0 ∧ ¬ L[i] ∈ L.take i) (fun y _ => nn - (intOf y).toNat)
        case atStart => exact ⟨0, Nat.zero_le _, rfl, (by first | exact HW2.out | exact grown_trans HW2.out (grown_drew _ none)), (by first | exact K1.out | exact (grown_drew _ none).cell K1.out (by simp)), fun i _ h => absurd h (Nat.not_lt_zero i)⟩
        case round =>
          clear HW2 K1
          obtain ⟨j, hj, rfl, hg, k1, hall⟩ := hrel
          have HALL := hid hall
          have HG := hid hg
          clear hall
          by_cases hlt : j < nn
          · obtain ⟨bA, oA, rfl, c0⟩ := NRd.at1 (HL.out.keep hg) (i := j) (by omega)
            have hkL : j < L.length := by omega
            have HDn := hid (HDF.out (L[j]'hkL) wr hg)
            obtain ⟨r, hr⟩ := ex_bool ((L[j]'hkL) ∈ L.take j)
            have HHas := hid fun w' (hg' : wr.grownBy w' none) => has_any (some ⟨bA, oA, none⟩) j cn (L.take j) (L[j]'hkL) r hr w' ((NRd.take HL.out (by omega)).keep (grown_trans hg hg'))
            obtain ⟨q, hq⟩ : ∃ q, q = F (L[j]'hkL) := ⟨_, rfl⟩
            rw [← hq] at HDn
            have HQ := hid hq
            have HR := hid hr
            obtain ⟨d, hd⟩ : ∃ d, d = L[j]'hkL := ⟨_, rfl⟩
            rw [← hd] at c0 HDn HHas
            clear hq hr hd hg
            by_cases hq0 : q = 0
            · subst hq0
              cases r
              · go_wp2_with (first | (go_at_call 31; refine HDn.out.mono ?_; rintro e w2 ⟨rfl, hg2⟩; have HG2 := hid hg2; replace k1 := hg2.cell k1 (by simp)) | (go_at_call 9; refine (HHas.out _ HG2.out).mono ?_; rintro e w3 ⟨rfl, hg3⟩; replace k1 := hg3.cell k1 (by simp)))
                refine ⟨⟨j + 1, by omega, by go_num, grown_trans HG.out (grown_trans HG2.out hg3), k1, fun i hi h => ?_⟩, by simp [intOf]; omega⟩
                rcases Nat.lt_or_eq_of_le (Nat.le_of_lt_succ h) with h | rfl
                · exact HALL.out i hi h
                · exact ⟨HQ.out.symm, by have := HR.out; simpa using this⟩
              · obtain rfl : V = 7 := by
                  rw [← HV.out]
                  unfold newE
                  rw [if_neg]
                  intro h9
                  exact (h9 j hkL).2 (HR.out.1 rfl)
                go_wp2_with (first | (go_at_call 31; refine HDn.out.mono ?_; rintro e w2 ⟨rfl, hg2⟩; have HG2 := hid hg2; replace k1 := hg2.cell k1 (by simp)) | (go_at_call 9; refine (HHas.out _ HG2.out).mono ?_; rintro e w3 ⟨rfl, hg3⟩; replace k1 := hg3.cell k1 (by simp)))
                go_ret
                exact ⟨rfl, grown_trans HG.out (grown_trans HG2.out hg3)⟩
            · have hqb : (q != 0) = true := by simpa using hq0
              obtain rfl : V = 7 := by
                rw [← HV.out]
                unfold newE
                rw [if_neg]
                intro h9
                have := (h9 j hkL).1
                rw [← HQ.out] at this
                exact hq0 this
              go_wp2_with (go_at_call 31; refine HDn.out.mono ?_; rintro e w2 ⟨rfl, hg2⟩)
              go_ret
              exact ⟨rfl, grown_trans HG.out hg2⟩
          · obtain rfl : j = nn := by omega
            obtain rfl : V = 0 := by
              rw [← HV.out]
              unfold newE
              rw [if_pos]
              intro i hi
              exact HALL.out i hi (by omega)
            go_wp2_with fail
            go_ret
            exact ⟨rfl, HG.out⟩
      · rw [if_neg hu]
        go_enter Tryz.func16, Tryz.ntmps16
        go_upto_region 1 with fail
        generalize (w.alloc _) = w0 at *
        go_upto_region 5 with (go_at_call 28; (first | with_reducible refine (HX.out _ hW).mono ?_ | with_reducible refine (HX.out _ (grown_trans hW (grown_drew _ none))).mono ?_); rintro e w1 ⟨rfl, hg⟩; (first | replace hW := grown_trans hW hg | replace hW := grown_trans (grown_trans hW (grown_drew _ none)) hg); replace k0 := hg.cell k0 (by simp); replace k1 := hg.cell k1 (by simp); replace k2 := hg.cell k2 (by simp); replace k3 := hg.cell k3 (by simp); replace k4 := hg.cell k4 (by simp); replace k5 := hg.cell k5 (by simp); replace k6 := hg.cell k6 (by simp); replace k7 := hg.cell k7 (by simp); replace k8 := hg.cell k8 (by simp); replace k9 := hg.cell k9 (by simp); clear hg)
        go_region_held3 (fun w' => w'.cell? ⟨w.heap.size, 0, none⟩ = some (.int .i64 k) ∧ w'.cell? ⟨w.heap.size, 1, none⟩ = some (.slice pn nn cn) ∧ w'.cell? ⟨w.heap.size, 2, none⟩ = some (.int .i64 e1) ∧ w'.cell? ⟨w.heap.size, 3, none⟩ = some (.string e2) ∧ w'.cell? ⟨w.heap.size, 4, none⟩ = some (.bool e3) ∧ w'.cell? ⟨w.heap.size, 5, none⟩ = some (.slice p1 n1 c1) ∧ w'.cell? ⟨w.heap.size, 6, none⟩ = some (.slice p2 n2 c2) ∧ w'.cell? ⟨w.heap.size, 7, none⟩ = some (.slice p3 n3 c3) ∧ w'.cell? ⟨w.heap.size, 8, none⟩ = some (.int .i64 e7) ∧ w'.cell? ⟨w.heap.size, 9, none⟩ = some (.int .i64 o9) ∧ w.grownBy w' none) ((try go_split_ands) <;> (repeat' apply And.intro) <;> (first | (with_reducible assumption) | (with_reducible refine (grown_drew _ none).cell ?_ (by simp); with_reducible assumption) | (with_reducible refine grown_trans ?_ (grown_drew _ none); with_reducible assumption))) (first | (go_at_call 30; (first | with_reducible refine (HSS.out _ hW).mono ?_ | with_reducible refine (HSS.out _ (grown_trans hW (grown_drew _ none))).mono ?_); rintro e w1 ⟨rfl, hg⟩; (first | replace hW := grown_trans hW hg | replace hW := grown_trans (grown_trans hW (grown_drew _ none)) hg); replace k0 := hg.cell k0 (by simp); replace k1 := hg.cell k1 (by simp); replace k2 := hg.cell k2 (by simp); replace k3 := hg.cell k3 (by simp); replace k4 := hg.cell k4 (by simp); replace k5 := hg.cell k5 (by simp); replace k6 := hg.cell k6 (by simp); replace k7 := hg.cell k7 (by simp); replace k8 := hg.cell k8 (by simp); replace k9 := hg.cell k9 (by simp); clear hg) | (go_at_call 29; (first | with_reducible refine (HU.out _ hW).mono ?_ | with_reducible refine (HU.out _ (grown_trans hW (grown_drew _ none))).mono ?_); rintro e w1 ⟨rfl, hg⟩; (first | replace hW := grown_trans hW hg | replace hW := grown_trans (grown_trans hW (grown_drew _ none)) hg); replace k0 := hg.cell k0 (by simp); replace k1 := hg.cell k1 (by simp); replace k2 := hg.cell k2 (by simp); replace k3 := hg.cell k3 (by simp); replace k4 := hg.cell k4 (by simp); replace k5 := hg.cell k5 (by simp); replace k6 := hg.cell k6 (by simp); replace k7 := hg.cell k7 (by simp); replace k8 := hg.cell k8 (by simp); replace k9 := hg.cell k9 (by simp); clear hg))
        go_wp2_with fail
        go_ret
        exact ⟨rfl, by first | exact hW | exact grown_trans hW (grown_drew _ none)⟩
  · rw [if_neg hx]
    clear hU hk1 hL hX hDf
    go_enter Tryz.func16, Tryz.ntmps16
    go_upto_region 1 with fail
    generalize (w.alloc _) = w0 at *
    go_wp2_with (go_at_call 28; (first | with_reducible refine (HX.out _ hW).mono ?_ | with_reducible refine (HX.out _ (grown_trans hW (grown_drew _ none))).mono ?_); rintro e w1 ⟨rfl, hg⟩; (first | replace hW := grown_trans hW hg | replace hW := grown_trans (grown_trans hW (grown_drew _ none)) hg); replace k0 := hg.cell k0 (by simp); replace k1 := hg.cell k1 (by simp); replace k2 := hg.cell k2 (by simp); replace k3 := hg.cell k3 (by simp); replace k4 := hg.cell k4 (by simp); replace k5 := hg.cell k5 (by simp); replace k6 := hg.cell k6 (by simp); replace k7 := hg.cell k7 (by simp); replace k8 := hg.cell k8 (by simp); replace k9 := hg.cell k9 (by simp); clear hg)
    go_ret
    exact ⟨rfl, hW⟩
end Go.Proofs.YtbioamglnndofaaGreatDoor

set_option linter.unusedVariables false
set_option linter.unusedSimpArgs false
namespace Go.Proofs.YtbioamglnndofaaGreatDoor
open Go.RowKit _root_.Nm Ax Lx
/-- the error of a statement behind others -/
noncomputable def staE (K : Nat → Int) (NL : Nat → List ByteArray) (m : Nat) (G : Nat → Tr) (X : Nat → Int) (i : Nat) : Int := or3 (X i) (usA (fun d => defF K NL d 0 i) m (G i)) (newE (fun d => defF K NL d 0 i) (NL i))
theorem or3_zero {X U V : Int} (h : or3 X U V = 0) : X = 0 ∧ U = 0 ∧ V = 0 := by
  unfold or3 at h
  by_cases h1 : X = 0
  · rw [if_pos h1] at h
    by_cases h2 : U = 0
    · rw [if_pos h2] at h
      exact ⟨h1, h2, h⟩
    · rw [if_neg h2] at h
      exact absurd h h2
  · rw [if_neg h1] at h
    exact absurd h h1
theorem newE_zero {F : ByteArray → Int} {L : List ByteArray} (h : newE F L = 0) : ∀ i (hi : i < L.length), F L[i] = 0 ∧ ¬ L[i] ∈ L.take i := by
  unfold newE at h
  split at h
  · assumption
  · omega
theorem StR.sort {k : Int} {L : List ByteArray} {m : Nat} {t : Tr} (h : StR k L m t) (hL : L ≠ []) : sortD k ≠ 0 := by
  obtain ⟨⟨h1, h2⟩, h3, _⟩ := h
  unfold sortD
  by_cases e5 : k = 5
  · subst e5
    simp [cntS] at h3
    exact absurd h3 hL
  · have : k = 1 ∨ k = 2 ∨ k = 3 ∨ k = 4 := by omega
    rcases this with rfl | rfl | rfl | rfl <;> simp
theorem prm_zero : (prm 0).length = 0 := by decide
def kindT : Tr → Int
  | .node h _ => h.k
theorem StR.wf {k : Int} {L : List ByteArray} {m : Nat} {t : Tr} (h : StR k L m t) (hm : 0 < m) : WfT m t ∧ kindT t ≠ 1 ∧ (k = 1 → ∀ F, usA F m t = 0) := by
  obtain ⟨_, _, _, h1, h2⟩ := h
  by_cases hk : k = 1
  · have h3 := h1 hk
    cases m with
    | zero => omega
    | succ m =>
    cases t with
    | node h l =>
    unfold zeroT EqP at h3
    obtain ⟨⟨a1, a2, a3, a4, a5⟩, a6, _⟩ := h3
    simp at a6
    subst a6
    have hz : h.k = 0 := a1
    refine ⟨⟨by rw [hz, prm_zero]; rfl, fun e => by omega, fun _ => ?_, fun i hi => absurd hi (Nat.not_lt_zero i)⟩, by show h.k ≠ 1; omega, fun _ F => rfl⟩
    have h9 : h.nm = ⟨#[]⟩ := by simpa using a2
    rw [h9]
  · obtain ⟨b1, b2⟩ := h2 hk
    exact ⟨b2, by cases t; exact b1, fun e => absurd e hk⟩
open Classical in
theorem defF_add {K : Nat → Int} {NL : Nat → List ByteArray} {k : Nat} (hp : ∀ j, j < k → NL j ≠ [] → sortD (K j) ≠ 0) (h : newE (fun d => defF K NL d 0 k) (NL k) = 0) :
    addF (NL k) (sortD (K k)) (fun d => defF K NL d 0 k) = fun d => defF K NL d 0 (k + 1) := by
  have h0 := newE_zero h
  have hne := fun d => @defF_ne K NL d k 0 (fun j _ h2 => hp j (by omega))
  funext d
  unfold addF
  have hs := @defF_snoc K NL d k 0
  rw [Nat.zero_add] at hs
  by_cases e : d ∈ NL k
  · simp only [e, if_true]
    rw [hs.2 (fun j _ h2 h3 => ?_) e]
    obtain ⟨i, hi, rfl⟩ := List.getElem_of_mem e
    exact (hne _).2 ⟨j, Nat.zero_le _, by omega, h3⟩ (h0 i hi).1
  · simp only [e, if_false]
    rw [hs.1 e]
theorem MapS.mono {w : World} {bm n n' : Nat} {F : ByteArray → Int} (h : MapS w bm n F) (hn : n ≤ n') : MapS w bm n' F := by
  obtain ⟨D, h1, h2, h3⟩ := h.ex
  exact ⟨D, h1, h2.mono hn, h3⟩
set_option maxHeartbeats 32000000 in
set_option maxRecDepth 100000 in
theorem sCheckP (p : Option Addr) (n c m : Nat) (C : Nat → List Value) (K : Nat → Int) (NL : Nat → List ByteArray) (G : Nat → Tr) (X : Nat → Int) (w : World) (hc : n ≤ c ∧ c ≤ 9223372036854775807) (hS : ∀ i, i < n → StN w p i (C i) (K i) (NL i) m (G i))
    (hn : n ≤ 1000) (hNL : ∀ i, i < n → (NL i).length ≤ 100)
    (hX : ∀ i, i < n → ∀ W, w.grownBy W none → Calls Tryz.prog 43 #[.agg (C i).toArray] W fun e w' => e = .returned (.int .i64 (X i)) ∧ W.grownBy w' none)
    (hR : ∀ i, i < n → X i = 0 → StR (K i) (NL i) m (G i)) (r : Int × Int) (hr : scanP (staE K NL m G X) 0 n = r) :
    Calls Tryz.prog 6 #[.agg #[.slice p n c]] w fun e w' => e = .returned (.tuple #[.int .i64 r.1, .int .i64 r.2]) ∧ w.grownBy w' none := by
  have HS := hid hS
  have HX := hid hX
  have HR := hid hR
  have HSC := hid hr
  have HNL := hid hNL
  obtain ⟨hnc, hcm⟩ := hc
  clear hS hX hR hr hNL
  have HW := hid (World.grownBy_alloc w (.cells #[.slice p n c] 24 (0, 0)) none)
  have HW2 := hid (World.grownBy_alloc (w.alloc (.cells #[.slice p n c] 24 (0, 0))) (.map #[] 0) none)
  have HB := hid (MapS.made (w.alloc (.cells #[.slice p n c] 24 (0, 0))))
  have hsz : (w.alloc (.cells #[.slice p n c] 24 (0, 0))).heap.size = w.heap.size + 1 := by simp
  rw [hsz] at HB
  clear hsz
  have hmm := @run_makeMap Tryz.prog
  go_enter Tryz.func6, Tryz.ntmps6
  go_wp2_with fail
  go_loopw [12] (fun y wr => ∃ k : Nat, k ≤ n ∧ y = .int .i64 k ∧ w.grownBy wr none ∧ MapS wr (w.heap.size + 1) (100 * k) (fun d => defF K NL d 0 k) ∧ (∀ j, j < k → staE K NL m G X j = 0) ∧ Hid (scanP (staE K NL m G X) k (n - k) = r)) (fun y _ => n - (intOf y).toNat)
  case atStart => exact ⟨0, Nat.zero_le _, rfl, grown_trans HW.out HW2.out, HB.out, fun j h => absurd h (Nat.not_lt_zero j), hid HSC.out⟩
  case round =>
    clear HSC HW HW2 HB
    obtain ⟨k, hk, rfl, hg, hM, hz, hsc⟩ := hrel
    by_cases hlt : k < n
    · have hSt := (HS.out k hlt).keep hg
      obtain ⟨b, o, pn, nn, cn, e1, e2, e3, p1, n1, c1, p2, n2, c2, p3, n3, c3, e7, o9, hpp, hck, ⟨hL, hNs, hE⟩, a0, a1, a2, a3, a4, a5, a6, a7, a8, a9⟩ := id hSt
      have hll := hL.len
      have hnl := HNL.out k hlt
      have hG1 := World.grownBy_alloc wr (.cells #[.int .i64 (K k), .slice pn nn cn, .int .i64 e1, .string e2, .bool e3, .slice p1 n1 c1, .slice p2 n2 c2, .slice p3 n3 c3, .int .i64 e7, .int .i64 o9] 46 (0, 0)) none
      have hgw := grown_trans hg hG1
      have hM1 := hM.keep hG1
      obtain ⟨F, hF⟩ : ∃ F, F = fun d => defF K NL d 0 k := ⟨_, rfl⟩
      have hx1 := HX.out k hlt
      rw [hck] at hx1
      rw [scanP_step hlt] at hsc
      have hE0 : staE K NL m G X k = or3 (X k) (usA F m (G k)) (newE F (NL k)) := by rw [hF]; rfl
      rw [hE0] at hsc
      rw [← hF] at hM hM1
      have HCK : Hid (∀ W, (wr.alloc (.cells #[.int .i64 (K k), .slice pn nn cn, .int .i64 e1, .string e2, .bool e3, .slice p1 n1 c1, .slice p2 n2 c2, .slice p3 n3 c3, .int .i64 e7, .int .i64 o9] 46 (0, 0))).grownBy W none → Calls Tryz.prog 14 #[.map (some (w.heap.size + 1)), .agg #[.int .i64 (K k), .slice pn nn cn, .int .i64 e1, .string e2, .bool e3, .slice p1 n1 c1, .slice p2 n2 c2, .slice p3 n3 c3, .int .i64 e7, .int .i64 o9]] W fun e w' => e = .returned (.int .i64 (or3 (X k) (usA F m (G k)) (newE F (NL k)))) ∧ W.grownBy w' none) := hid fun W hW => by
        refine sCheck_n _ _ _ _ _ _ _ _ _ _ _ _ _ _ _ _ _ _ _ (X k) _ _ W (fun W' hW' => hx1 W' (grown_trans hgw (grown_trans hW hW'))) (fun h0 W' hW' => ?_) (fun h0 W' hW' => ?_)
        · cases m with
          | zero => exact hE.elim
          | succ m =>
          exact sArgs_any _ _ F (m + 1) _ _ W' (hM1.keep (grown_trans hW hW')) (hE.keep (grown_trans hG1 (grown_trans hW hW'))) ((HR.out k hlt h0).wf (by omega)).1
        · exact sNew_n _ _ F pn nn cn (NL k) W' (hM1.keep (grown_trans hW hW')) (hL.keep (grown_trans hG1 (grown_trans hW hW'))) hNs (by omega) _ rfl
      obtain ⟨v, hv⟩ : ∃ v, v = or3 (X k) (usA F m (G k)) (newE F (NL k)) := ⟨_, rfl⟩
      rw [← hv] at hsc HCK
      have HAD : Hid (v = 0 → ∀ W, (wr.alloc (.cells #[.int .i64 (K k), .slice pn nn cn, .int .i64 e1, .string e2, .bool e3, .slice p1 n1 c1, .slice p2 n2 c2, .slice p3 n3 c3, .int .i64 e7, .int .i64 o9] 46 (0, 0))).grownBy W none → Calls Tryz.prog 15 #[.map (some (w.heap.size + 1)), .agg #[.int .i64 (K k), .slice pn nn cn, .int .i64 e1, .string e2, .bool e3, .slice p1 n1 c1, .slice p2 n2 c2, .slice p3 n3 c3, .int .i64 e7, .int .i64 o9]] W fun e w' => e = .returned (.tuple #[]) ∧ W.grownBy w' (some (w.heap.size + 1)) ∧ MapS w' (w.heap.size + 1) (100 * (k + 1)) (fun d => defF K NL d 0 (k + 1))) := hid fun h0 W hW => by
        have h3 := or3_zero (hv.symm.trans h0)
        have hp : ∀ j, j < k → NL j ≠ [] → sortD (K j) ≠ 0 := fun j hj => StR.sort (HR.out j (by omega) (or3_zero (hz j hj)).1)
        have h4 := sAdd_n (w.heap.size + 1) (100 * k) F (K k) pn nn cn e1 e2 e3 p1 n1 c1 p2 n2 c2 p3 n3 c3 e7 o9 (NL k) W (hM1.keep hW) (hL.keep (grown_trans hG1 hW)) hNs (by omega) (StR.sort (HR.out k hlt h3.1)) (fun a ha hnn => by
          have h5 : StN w p k (C k) (K k) (NL k) m (G k) := HS.out k hlt
          obtain ⟨_, _, pn', nn', cn', _, _, _, _, _, _, _, _, _, _, _, _, _, _, _, hck', ⟨hL', _⟩, _⟩ := h5
          rw [hck] at hck'
          simp at hck'
          obtain ⟨⟨rfl, rfl, rfl⟩, _⟩ := hck'
          have := hL'.lt hnn a ha
          omega)
        refine h4.mono fun e w' ⟨q1, q2, q3⟩ => ⟨q1, q2, ?_⟩
        have hda := defF_add hp (by rw [← hF]; exact h3.2.2)
        rw [← hF] at hda
        rw [← hda]
        exact q3.mono (by omega)
      have HGG := hid hgw
      have HZ := hid fun h0 : v = 0 => (fun j hj => by
        rcases Nat.lt_or_eq_of_le (Nat.le_of_lt_succ hj) with h | rfl
        · exact hz j h
        · rw [hE0, ← hv, h0] : ∀ j, j < k + 1 → staE K NL m G X j = 0)
      have hszr : w.heap.size ≤ wr.heap.size := hg.size
      have hbr : w.heap.size + 1 < wr.heap.size := hM.lt
      clear hSt hck hL hNs hE hll hnl hG1 hgw hM hM1 hF hx1 hE0 hv hz hg
      subst hpp
      generalize K k = kk at *
      obtain ⟨⟨i0, i1, i2, i3, i4, i5, i6, i7, i8, i9⟩, fa⟩ := box10' (blk0 wr (.cells #[.int .i64 0, .slice none 0 0, .int .i64 0, .string ⟨#[]⟩, .bool false, .slice none 0 0, .slice none 0 0, .slice none 0 0, .int .i64 0, .int .i64 0] 46 (0, 0)))
      have f0 := fa 0; have f1 := fa 1; have f2 := fa 2; have f3 := fa 3; have f4 := fa 4; have f5 := fa 5; have f6 := fa 6; have f7 := fa 7; have f8 := fa 8; have f9 := fa 9
      clear fa
      go_upto_region 5 with fail
      clear i0 i1 i2 i3 i4 i5 i6 i7 i8 i9 f0 f1 f2 f3 f4 f5 f6 f7 f8 f9 a0 a1 a2 a3 a4 a5 a6 a7 a8 a9
      obtain ⟨⟨b0, b1, b2, b3, b4, b5, b6, b7, b8, b9⟩, -⟩ := box10' (blk0 wr (.cells #[.int .i64 kk, .slice pn nn cn, .int .i64 e1, .string e2, .bool e3, .slice p1 n1 c1, .slice p2 n2 c2, .slice p3 n3 c3, .int .i64 e7, .int .i64 o9] 46 (0, 0)))
      generalize (wr.alloc _) = w5 at *
      generalize wr.heap.size = B5 at *
      have hgr := grown_refl w5 none
      by_cases hv : v = 0
      · subst hv
        rw [if_pos rfl] at hsc
        have HA := hid (HAD.out (by first | rfl | trivial))
        clear HAD
        go_wp2_with (first | (go_at_call 14; refine (HCK.out _ hgr).mono ?_; rintro e w3 ⟨rfl, hg3⟩; replace hgr := grown_trans hgr hg3; replace b0 := hg3.cell b0 (by simp); replace b1 := hg3.cell b1 (by simp); replace b2 := hg3.cell b2 (by simp); replace b3 := hg3.cell b3 (by simp); replace b4 := hg3.cell b4 (by simp); replace b5 := hg3.cell b5 (by simp); replace b6 := hg3.cell b6 (by simp); replace b7 := hg3.cell b7 (by simp); replace b8 := hg3.cell b8 (by simp); replace b9 := hg3.cell b9 (by simp); clear hg3) | (go_at_call 15; refine (HA.out _ hgr).mono ?_; rintro e w4 ⟨rfl, hg4, hM4⟩))
        exact ⟨⟨k + 1, by omega, by go_num, grown_new (grown_trans HGG.out hgr) hg4 (fun g e => by cases e; omega), hM4, HZ.out (by first | rfl | trivial), hsc⟩, by simp [intOf]; omega⟩
      · rw [if_neg hv] at hsc
        obtain rfl := hsc.out
        clear HAD
        go_wp2_with (go_at_call 14; refine (HCK.out _ hgr).mono ?_; rintro e w3 ⟨rfl, hg3⟩; replace hgr := grown_trans hgr hg3; clear hg3)
        go_ret2
        exact ⟨rfl, grown_trans HGG.out hgr⟩
    · obtain rfl : k = n := by omega
      obtain rfl : r = (0, 0) := by
        have := hsc.out
        rw [Nat.sub_self] at this
        exact this.symm
      go_wp2_with fail
      go_ret2
      exact ⟨rfl, hg⟩
set_option maxHeartbeats 32000000 in
set_option maxRecDepth 100000 in
theorem rCheckP (p : Option Addr) (n c m : Nat) (C : Nat → List Value) (K : Nat → Int) (NL : Nat → List ByteArray) (G : Nat → Tr) (X : Nat → Int) (w : World) (hc : n ≤ c ∧ c ≤ 9223372036854775807) (hS : ∀ i, i < n → StN w p i (C i) (K i) (NL i) m (G i))
    (hX : ∀ i, i < n → ∀ W, w.grownBy W none → Calls Tryz.prog 28 #[.agg (C i).toArray] W fun e w' => e = .returned (.int .i64 (X i)) ∧ W.grownBy w' none)
    (hR : ∀ i, i < n → X i = 0 → StR (K i) (NL i) m (G i)) (r : Int × Int) (hr : scanP (staE K NL m G X) 0 n = r) :
    Calls Tryz.prog 7 #[.agg #[.slice p n c]] w fun e w' => e = .returned (.tuple #[.int .i64 r.1, .int .i64 r.2]) ∧ w.grownBy w' none := by
  have HS := hid hS
  have HX := hid hX
  have HR := hid hR
  have HSC := hid hr
  obtain ⟨hnc, hcm⟩ := hc
  clear hS hX hR hr
  have HW := hid (World.grownBy_alloc w (.cells #[.slice p n c] 24 (0, 0)) none)
  have kp := cell_of_one (blk0 w (.cells #[.slice p n c] 24 (0, 0)))
  have KPP := hid kp
  clear kp
  go_enter Tryz.func7, Tryz.ntmps7
  go_wp2_with fail
  go_loopw [10] (fun y wr => ∃ k : Nat, k ≤ n ∧ y = .int .i64 k ∧ w.grownBy wr none ∧ wr.cell? ⟨w.heap.size, 0, none⟩ = some (.slice p n c) ∧ Hid (scanP (staE K NL m G X) k (n - k) = r)) (fun y _ => n - (intOf y).toNat)
  case atStart => exact ⟨0, Nat.zero_le _, rfl, HW.out, KPP.out, hid HSC.out⟩
  case round =>
    clear HSC HW KPP
    obtain ⟨k, hk, rfl, hg, kp, hsc⟩ := hrel
    by_cases hlt : k < n
    · have hSt := (HS.out k hlt).keep hg
      obtain ⟨b, o, pn, nn, cn, e1, e2, e3, p1, n1, c1, p2, n2, c2, p3, n3, c3, e7, o9, hpp, hck, ⟨hL, hNs, hE⟩, a0, a1, a2, a3, a4, a5, a6, a7, a8, a9⟩ := id hSt
      have hG1 := World.grownBy_alloc wr (.cells #[.int .i64 (K k), .slice pn nn cn, .int .i64 e1, .string e2, .bool e3, .slice p1 n1 c1, .slice p2 n2 c2, .slice p3 n3 c3, .int .i64 e7, .int .i64 o9] 46 (0, 0)) none
      have hgw := grown_trans hg hG1
      have hx1 := HX.out k hlt
      rw [hck] at hx1
      rw [scanP_step hlt] at hsc
      have hE0 : staE K NL m G X k = or3 (X k) (usA (fun d => defF K NL d 0 k) m (G k)) (newE (fun d => defF K NL d 0 k) (NL k)) := rfl
      rw [hE0] at hsc
      have HCK : Hid (∀ W, (wr.alloc (.cells #[.int .i64 (K k), .slice pn nn cn, .int .i64 e1, .string e2, .bool e3, .slice p1 n1 c1, .slice p2 n2 c2, .slice p3 n3 c3, .int .i64 e7, .int .i64 o9] 46 (0, 0))).grownBy W none → Calls Tryz.prog 16 #[.slice p k c, .agg #[.int .i64 (K k), .slice pn nn cn, .int .i64 e1, .string e2, .bool e3, .slice p1 n1 c1, .slice p2 n2 c2, .slice p3 n3 c3, .int .i64 e7, .int .i64 o9]] W fun e w' => e = .returned (.int .i64 (or3 (X k) (usA (fun d => defF K NL d 0 k) m (G k)) (newE (fun d => defF K NL d 0 k) (NL k)))) ∧ W.grownBy w' none) := hid fun W hW => by
        have hDf : DefOk W p k c (fun d => defF K NL d 0 k) := fun d W' hW' => rDefined_n p k c m C K NL G d W' ⟨by omega, hcm⟩ (fun i hi => (HS.out i (by omega)).keep (grown_trans hgw (grown_trans hW hW'))) _ rfl
        cases m with
        | zero => exact hE.elim
        | succ m =>
        refine rStatement_n p k c _ (NL k) _ _ _ _ _ _ _ _ _ _ _ _ _ _ _ _ _ _ (X k) _ _ W (hL.keep (grown_trans hG1 hW)) hDf (fun W' hW' => hx1 W' (grown_trans hgw (grown_trans hW hW'))) (fun h0 W' hW' => ?_) (fun h0 hk1 => ((HR.out k hlt h0).wf (by omega)).2.2 hk1 _) rfl
        have h5 := (HR.out k hlt h0).wf (by omega)
        cases hG : G k with
        | node h l =>
        rw [hG] at h5 hE
        have := rUses_any p k c (fun d => defF K NL d 0 k) (m + 1) _ _ (sortS (K k)) W' (hDf.keep hW') (hE.keep (grown_trans hG1 (grown_trans hW hW'))) h5.1
        rwa [usE_args _ _ _ _ _ h5.2.1] at this
      generalize or3 (X k) (usA (fun d => defF K NL d 0 k) m (G k)) (newE (fun d => defF K NL d 0 k) (NL k)) = v at *
      have HGG := hid hgw
      have kp1 := hG1.cell kp (by simp)
      clear hSt hck hL hNs hE hG1 hgw hx1 hE0
      subst hpp
      generalize K k = kk at *
      obtain ⟨⟨i0, i1, i2, i3, i4, i5, i6, i7, i8, i9⟩, fa⟩ := box10' (blk0 wr (.cells #[.int .i64 0, .slice none 0 0, .int .i64 0, .string ⟨#[]⟩, .bool false, .slice none 0 0, .slice none 0 0, .slice none 0 0, .int .i64 0, .int .i64 0] 46 (0, 0)))
      have f0 := fa 0; have f1 := fa 1; have f2 := fa 2; have f3 := fa 3; have f4 := fa 4; have f5 := fa 5; have f6 := fa 6; have f7 := fa 7; have f8 := fa 8; have f9 := fa 9
      clear fa
      go_upto_region 4 with fail
      clear i0 i1 i2 i3 i4 i5 i6 i7 i8 i9 f0 f1 f2 f3 f4 f5 f6 f7 f8 f9 a0 a1 a2 a3 a4 a5 a6 a7 a8 a9 kp
      obtain ⟨⟨b0, b1, b2, b3, b4, b5, b6, b7, b8, b9⟩, -⟩ := box10' (blk0 wr (.cells #[.int .i64 kk, .slice pn nn cn, .int .i64 e1, .string e2, .bool e3, .slice p1 n1 c1, .slice p2 n2 c2, .slice p3 n3 c3, .int .i64 e7, .int .i64 o9] 46 (0, 0)))
      clear hg
      generalize (wr.alloc _) = w5 at *
      generalize wr.heap.size = B5 at *
      have hgr := grown_refl w5 none
      have hz0 : (0 : Int) ≤ (k : Int) := by omega
      have hz1 : (k : Int) ≤ (c : Int) := by omega
      have hz2 : k ≤ c := by omega
      by_cases hv : v = 0
      · subst hv
        rw [if_pos rfl] at hsc
        go_region_held3 (fun w' => w'.cell? ⟨w.heap.size, 0, none⟩ = some (.slice (some ⟨b, o, none⟩) n c) ∧ w'.cell? ⟨B5, 0, none⟩ = some (.int .i64 kk) ∧ w'.cell? ⟨B5, 1, none⟩ = some (.slice pn nn cn) ∧ w'.cell? ⟨B5, 2, none⟩ = some (.int .i64 e1) ∧ w'.cell? ⟨B5, 3, none⟩ = some (.string e2) ∧ w'.cell? ⟨B5, 4, none⟩ = some (.bool e3) ∧ w'.cell? ⟨B5, 5, none⟩ = some (.slice p1 n1 c1) ∧ w'.cell? ⟨B5, 6, none⟩ = some (.slice p2 n2 c2) ∧ w'.cell? ⟨B5, 7, none⟩ = some (.slice p3 n3 c3) ∧ w'.cell? ⟨B5, 8, none⟩ = some (.int .i64 e7) ∧ w'.cell? ⟨B5, 9, none⟩ = some (.int .i64 o9) ∧ w5.grownBy w' none) ((try go_split_ands) <;> (repeat' apply And.intro) <;> (first | (with_reducible assumption) | (with_reducible refine (grown_drew _ none).cell ?_ (by simp); with_reducible assumption) | (with_reducible refine grown_trans ?_ (grown_drew _ none); with_reducible assumption))) (first | (go_at_call 16; (first | with_reducible refine (HCK.out _ hgr).mono ?_ | with_reducible refine (HCK.out _ (grown_trans hgr (grown_drew _ none))).mono ?_); rintro e w3 ⟨rfl, hg3⟩; (first | replace hgr := grown_trans hgr hg3 | replace hgr := grown_trans (grown_trans hgr (grown_drew _ none)) hg3); replace kp1 := hg3.cell kp1 (by simp); replace b0 := hg3.cell b0 (by simp); replace b1 := hg3.cell b1 (by simp); replace b2 := hg3.cell b2 (by simp); replace b3 := hg3.cell b3 (by simp); replace b4 := hg3.cell b4 (by simp); replace b5 := hg3.cell b5 (by simp); replace b6 := hg3.cell b6 (by simp); replace b7 := hg3.cell b7 (by simp); replace b8 := hg3.cell b8 (by simp); replace b9 := hg3.cell b9 (by simp); clear hg3))
        go_wp2_with fail
        exact ⟨⟨k + 1, by omega, by go_num, grown_trans HGG.out hgr, (by assumption), hsc⟩, by simp [intOf]; omega⟩
      · rw [if_neg hv] at hsc
        obtain rfl := hsc.out
        go_region_held3 (fun w' => w'.cell? ⟨w.heap.size, 0, none⟩ = some (.slice (some ⟨b, o, none⟩) n c) ∧ w'.cell? ⟨B5, 0, none⟩ = some (.int .i64 kk) ∧ w'.cell? ⟨B5, 1, none⟩ = some (.slice pn nn cn) ∧ w'.cell? ⟨B5, 2, none⟩ = some (.int .i64 e1) ∧ w'.cell? ⟨B5, 3, none⟩ = some (.string e2) ∧ w'.cell? ⟨B5, 4, none⟩ = some (.bool e3) ∧ w'.cell? ⟨B5, 5, none⟩ = some (.slice p1 n1 c1) ∧ w'.cell? ⟨B5, 6, none⟩ = some (.slice p2 n2 c2) ∧ w'.cell? ⟨B5, 7, none⟩ = some (.slice p3 n3 c3) ∧ w'.cell? ⟨B5, 8, none⟩ = some (.int .i64 e7) ∧ w'.cell? ⟨B5, 9, none⟩ = some (.int .i64 o9) ∧ w5.grownBy w' none) ((try go_split_ands) <;> (repeat' apply And.intro) <;> (first | (with_reducible assumption) | (with_reducible refine (grown_drew _ none).cell ?_ (by simp); with_reducible assumption) | (with_reducible refine grown_trans ?_ (grown_drew _ none); with_reducible assumption))) (first | (go_at_call 16; (first | with_reducible refine (HCK.out _ hgr).mono ?_ | with_reducible refine (HCK.out _ (grown_trans hgr (grown_drew _ none))).mono ?_); rintro e w3 ⟨rfl, hg3⟩; (first | replace hgr := grown_trans hgr hg3 | replace hgr := grown_trans (grown_trans hgr (grown_drew _ none)) hg3); replace kp1 := hg3.cell kp1 (by simp); replace b0 := hg3.cell b0 (by simp); replace b1 := hg3.cell b1 (by simp); replace b2 := hg3.cell b2 (by simp); replace b3 := hg3.cell b3 (by simp); replace b4 := hg3.cell b4 (by simp); replace b5 := hg3.cell b5 (by simp); replace b6 := hg3.cell b6 (by simp); replace b7 := hg3.cell b7 (by simp); replace b8 := hg3.cell b8 (by simp); replace b9 := hg3.cell b9 (by simp); clear hg3))
        go_wp2_with fail
        go_ret2
        exact ⟨rfl, grown_trans HGG.out hgr⟩
    · obtain rfl : k = n := by omega
      obtain rfl : r = (0, 0) := by
        have := hsc.out
        rw [Nat.sub_self] at this
        exact this.symm
      go_wp2_with fail
      go_ret2
      exact ⟨rfl, hg⟩
end Go.Proofs.YtbioamglnndofaaGreatDoor

set_option linter.unusedVariables false
set_option linter.unusedSimpArgs false
namespace Go.Proofs.YtbioamglnndofaaGreatDoor
open Go.RowKit _root_.Nm Ax Lx
theorem StN.of {w : World} {p : Option Addr} {i : Nat} {cs : List Value} {k : Int} {L : List ByteArray} {m : Nat} {t : Tr} (h : StAt w p i cs) (h2 : StOk w cs k L m t) : StN w p i cs k L m t := by
  obtain ⟨b, o, k', pn, nn, cn, e1, e2, e3, p1, n1, c1, p2, n2, c2, p3, n3, c3, e7, o9, h1, hcs, a0, a1, a2, a3, a4, a5, a6, a7, a8, a9⟩ := h
  obtain ⟨⟨pn', nn', cn', ce, o', hcs', hL, hE⟩, hN⟩ := h2
  obtain ⟨x1, x2, x3, q1, m1, d1, q2, m2, d2, q3, m3, d3, x7, rfl⟩ := hE.shape
  rw [hcs] at hcs'
  simp at hcs'
  obtain ⟨rfl, ⟨rfl, rfl, rfl⟩, rfl, rfl, rfl, ⟨rfl, rfl, rfl⟩, ⟨rfl, rfl, rfl⟩, ⟨rfl, rfl, rfl⟩, rfl, rfl⟩ := hcs'
  exact ⟨b, o, _, _, _, _, _, _, _, _, _, _, _, _, _, _, _, _, _, h1, hcs, ⟨hL, hN, hE⟩, a0, a1, a2, a3, a4, a5, a6, a7, a8, a9⟩
/-- whether a program is small, as the law counts -/
def SmallP (n m : Nat) (NL : Nat → List ByteArray) (G : Nat → Tr) : Prop := (∀ i, i < n → (NL i).length ≤ 40 ∧ ¬ 300 < cntF m (G i)) ∧ n ≤ 40
set_option maxHeartbeats 16000000 in
set_option maxRecDepth 100000 in
theorem small19_n (p : Option Addr) (n c m : Nat) (C : Nat → List Value) (K : Nat → Int) (NL : Nat → List ByteArray) (G : Nat → Tr) (w : World) (hc : n ≤ c ∧ c ≤ 9223372036854775807) (hS : ∀ i, i < n → StN w p i (C i) (K i) (NL i) m (G i)) (b : Bool) (hb : b = true ↔ SmallP n m NL G) :
    Calls Tryz.prog 5 #[.agg #[.slice p n c]] w fun e w' => e = .returned (.bool b) ∧ w.grownBy w' none := by
  have HS := hid hS
  have HB := hid hb
  obtain ⟨hnc, hcm⟩ := hc
  clear hS hb
  have HW := hid (World.grownBy_alloc w (.cells #[.slice p n c] 24 (0, 0)) none)
  have KPP := hid (cell_of_one (blk0 w (.cells #[.slice p n c] 24 (0, 0))))
  go_enter Tryz.func5, Tryz.ntmps5
  go_wp2_with fail
  go_loopw [8] (fun y wr => ∃ k : Nat, k ≤ n ∧ y = .int .i64 k ∧ w.grownBy wr none ∧ wr.cell? ⟨w.heap.size, 0, none⟩ = some (.slice p n c) ∧ ∀ i, i < k → (NL i).length ≤ 40 ∧ ¬ 300 < cntF m (G i)) (fun y _ => n - (intOf y).toNat)
  case atStart => exact ⟨0, Nat.zero_le _, rfl, HW.out, KPP.out, fun i h => absurd h (Nat.not_lt_zero i)⟩
  case round =>
    clear HW KPP
    obtain ⟨k, hk, rfl, hg, kp, hall⟩ := hrel
    have HALL := hid hall
    clear hall
    by_cases hlt : k < n
    · obtain ⟨b9, o, pn, nn, cn, e1, e2, e3, p1, n1, c1, p2, n2, c2, p3, n3, c3, e7, o9, rfl, hck, ⟨hL, hNs, hE⟩, a0, a1, a2, a3, a4, a5, a6, a7, a8, a9⟩ := (HS.out k hlt).keep hg
      have hll := hL.len
      have hG1 := World.grownBy_alloc wr (.cells #[.int .i64 (K k), .slice pn nn cn, .int .i64 e1, .string e2, .bool e3, .slice p1 n1 c1, .slice p2 n2 c2, .slice p3 n3 c3, .int .i64 e7, .int .i64 o9] 46 (0, 0)) none
      have HCT := hid (count_e m _ (G k) _ (hE.keep hG1))
      obtain ⟨z, hz⟩ : ∃ z, z = cntF m (G k) := ⟨_, rfl⟩
      rw [← hz] at HCT
      have HZ := hid hz
      have HLL := hid hll
      have HG := hid (grown_trans hg hG1)
      have kp1 := hG1.cell kp (by simp)
      clear hL hNs hE hck hG1 hz hll hg kp
      generalize K k = kk at *
      obtain ⟨⟨i0, i1, i2, i3, i4, i5, i6, i7, i8, i9⟩, fa⟩ := box10' (blk0 wr (.cells #[.int .i64 0, .slice none 0 0, .int .i64 0, .string ⟨#[]⟩, .bool false, .slice none 0 0, .slice none 0 0, .slice none 0 0, .int .i64 0, .int .i64 0] 46 (0, 0)))
      have f0 := fa 0; have f1 := fa 1; have f2 := fa 2; have f3 := fa 3; have f4 := fa 4; have f5 := fa 5; have f6 := fa 6; have f7 := fa 7; have f8 := fa 8; have f9 := fa 9
      clear fa
      go_upto_region 4 with fail
      clear i0 i1 i2 i3 i4 i5 i6 i7 i8 i9 f0 f1 f2 f3 f4 f5 f6 f7 f8 f9 a0 a1 a2 a3 a4 a5 a6 a7 a8 a9
      obtain ⟨⟨b0, b1, b2, b3, b4, b5, b6, b7, b8, b9'⟩, -⟩ := box10' (blk0 wr (.cells #[.int .i64 kk, .slice pn nn cn, .int .i64 e1, .string e2, .bool e3, .slice p1 n1 c1, .slice p2 n2 c2, .slice p3 n3 c3, .int .i64 e7, .int .i64 o9] 46 (0, 0)))
      generalize (wr.alloc _) = w5 at *
      generalize wr.heap.size = B5 at *
      by_cases h1 : 300 < z
      · obtain rfl : b = false := by
          rw [← Bool.not_eq_true, HB.out]
          intro h9
          have := (h9.1 k hlt).2
          rw [← HZ.out] at this
          exact this h1
        go_wp2_with (go_at_call 13; refine HCT.out.mono ?_; rintro e w2 ⟨rfl, hg2⟩)
        go_ret
        exact ⟨rfl, grown_trans HG.out hg2⟩
      · by_cases h2 : 40 < nn
        · obtain rfl : b = false := by
            rw [← Bool.not_eq_true, HB.out]
            intro h9
            have := (h9.1 k hlt).1
            have := HLL.out
            omega
          have h3 : (40 : Int) < (nn : Int) := by omega
          go_wp2_with (go_at_call 13; refine HCT.out.mono ?_; rintro e w2 ⟨rfl, hg2⟩; replace b1 := hg2.cell b1 (by simp))
          go_ret
          exact ⟨rfl, grown_trans HG.out hg2⟩
        · have h3 : ¬ (40 : Int) < (nn : Int) := by omega
          go_wp2_with (go_at_call 13; refine HCT.out.mono ?_; rintro e w2 ⟨rfl, hg2⟩; replace b1 := hg2.cell b1 (by simp))
          refine ⟨⟨k + 1, by omega, by go_num, grown_trans HG.out hg2, hg2.cell kp1 (by simp), fun i hi => ?_⟩, by simp [intOf]; omega⟩
          rcases Nat.lt_or_eq_of_le (Nat.le_of_lt_succ hi) with h | rfl
          · exact ⟨(HALL.out i h).1, by have := (HALL.out i h).2; omega⟩
          · refine ⟨by have := HLL.out; omega, ?_⟩
            rw [← HZ.out]
            omega
    · obtain rfl : k = n := by omega
      have HG := hid hg
      clear hg
      by_cases h4 : k ≤ 40
      · obtain rfl : b = true := HB.out.2 ⟨fun i hi => HALL.out i hi, h4⟩
        have h5 : (k : Int) ≤ 40 := by omega
        go_wp2_with fail
        go_ret
        exact ⟨by simp [h5], HG.out⟩
      · obtain rfl : b = false := by
          rw [← Bool.not_eq_true, HB.out]
          exact fun h9 => h4 h9.2
        have h5 : ¬ (k : Int) ≤ 40 := by omega
        go_wp2_with fail
        go_ret
        exact ⟨by simp [h5], HG.out⟩
set_option maxHeartbeats 16000000 in
set_option maxRecDepth 100000 in
theorem scopeChecks_walk (p : Option Addr) (n c m : Nat) (C : Nat → List Value) (K : Nat → Int) (NL : Nat → List ByteArray) (G : Nat → Tr) (X : Nat → Int) (w : World) (hc : n ≤ c ∧ c ≤ 9223372036854775807) (hS : ∀ i, i < n → StN w p i (C i) (K i) (NL i) m (G i))
    (hX1 : ∀ i, i < n → ∀ W, w.grownBy W none → Calls Tryz.prog 43 #[.agg (C i).toArray] W fun e w' => e = .returned (.int .i64 (X i)) ∧ W.grownBy w' none)
    (hX2 : ∀ i, i < n → ∀ W, w.grownBy W none → Calls Tryz.prog 28 #[.agg (C i).toArray] W fun e w' => e = .returned (.int .i64 (X i)) ∧ W.grownBy w' none)
    (hR : ∀ i, i < n → X i = 0 → StR (K i) (NL i) m (G i)) :
    Calls Tryz.prog 3 #[.agg #[.slice p n c]] w fun e w' => e = .returned (.bool true) ∧ w.grownBy w' none := by
  obtain ⟨bs, hbs⟩ := ex_bool (SmallP n m NL G)
  obtain ⟨r1, r2, hr⟩ : ∃ r1 r2, scanP (staE K NL m G X) 0 n = (r1, r2) := ⟨_, _, rfl⟩
  have HSM := hid fun w' (hg : w.grownBy w' none) => small19_n p n c m C K NL G w' hc (fun i hi => (hS i hi).keep hg) bs hbs
  have HP1 := hid fun (hb : bs = true) w' (hg : w.grownBy w' none) => sCheckP p n c m C K NL G X w' hc (fun i hi => (hS i hi).keep hg) (by have := (hbs.1 hb).2; omega) (fun i hi => by have := ((hbs.1 hb).1 i hi).1; omega) (fun i hi W hW => hX1 i hi W (grown_trans hg hW)) hR (r1, r2) hr
  have HP2 := hid fun w' (hg : w.grownBy w' none) => rCheckP p n c m C K NL G X w' hc (fun i hi => (hS i hi).keep hg) (fun i hi W hW => hX2 i hi W (grown_trans hg hW)) hR (r1, r2) hr
  clear hS hX1 hX2 hR hr hbs
  have hW := World.grownBy_alloc w (.cells #[.slice p n c] 24 (0, 0)) none
  have kp := cell_of_one (blk0 w (.cells #[.slice p n c] 24 (0, 0)))
  cases bs
  · clear HP1 HP2
    go_enter Tryz.func3, Tryz.ntmps3
    go_upto_region 1 with fail
    generalize (w.alloc _) = w0 at *
    go_wp2_with (go_at_call 5; refine (HSM.out _ hW).mono ?_; rintro e w1 ⟨rfl, hg⟩; replace hW := grown_trans hW hg)
    go_ret
    exact ⟨rfl, hW⟩
  · replace HP1 := hid (HP1.out rfl)
    go_enter Tryz.func3, Tryz.ntmps3
    go_upto_region 1 with fail
    generalize (w.alloc _) = w0 at *
    go_wp2_with (first | (go_at_call 5; refine (HSM.out _ hW).mono ?_; rintro e w1 ⟨rfl, hg⟩; replace hW := grown_trans hW hg; replace kp := hg.cell kp (by simp); clear hg) | (go_at_call 6; refine (HP1.out _ hW).mono ?_; rintro e w1 ⟨rfl, hg⟩; replace hW := grown_trans hW hg; replace kp := hg.cell kp (by simp); clear hg) | (go_at_call 7; refine (HP2.out _ hW).mono ?_; rintro e w1 ⟨rfl, hg⟩; replace hW := grown_trans hW hg; clear hg))
    go_ret
    exact ⟨by simp, hW⟩
end Go.Proofs.YtbioamglnndofaaGreatDoor
