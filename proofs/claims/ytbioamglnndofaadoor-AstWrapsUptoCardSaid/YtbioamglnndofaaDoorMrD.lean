/-
  AdA EqC AdB AdC AdD AdE ScWp AdF AdG AdH WrA, in one text.
-/
import Derived.Test.YtbioamglnndofaaDoorMrC
import Derived.Test.YtbioamglnndofaaDoorMrL
import Derived.Test.YtbioamglnndofaaDoorMrA
import Derived.Deep.RegionHeld3
import Derived.Test.YtbioamglnndofaaDoorMrR

set_option linter.unusedVariables false
set_option linter.unusedSimpArgs false
namespace Go.Proofs.YtbioamglnndofaaDoor
open Go.RowKit _root_.Nm Lx
/-- the sort of the expression of a kind of statements -/
def sortS (k : Int) : Int := if k = 2 then 1 else if k = 3 then 2 else if k = 4 then 3 else if k = 5 then 4 else 0
end Go.Proofs.YtbioamglnndofaaDoor

set_option linter.unusedVariables false
set_option linter.unusedSimpArgs false
namespace Go.Proofs.YtbioamglnndofaaDoor
open Go.RowKit _root_.Nm


end Go.Proofs.YtbioamglnndofaaDoor

set_option linter.unusedVariables false
set_option linter.unusedSimpArgs false
namespace Go.Proofs.YtbioamglnndofaaDoor
open Go.RowKit _root_.Nm Lx
theorem box10' {w : World} {G : Nat} {a b c d e f g h i j : Value} {T : TypeId} (hb : w.heap[G]? = some (.cells #[a, b, c, d, e, f, g, h, i, j] T (0, 0))) :
    (w.cell? ⟨G, 0, none⟩ = some a ∧ w.cell? ⟨G, 1, none⟩ = some b ∧ w.cell? ⟨G, 2, none⟩ = some c ∧ w.cell? ⟨G, 3, none⟩ = some d ∧ w.cell? ⟨G, 4, none⟩ = some e ∧ w.cell? ⟨G, 5, none⟩ = some f ∧ w.cell? ⟨G, 6, none⟩ = some g ∧ w.cell? ⟨G, 7, none⟩ = some h ∧ w.cell? ⟨G, 8, none⟩ = some i ∧ w.cell? ⟨G, 9, none⟩ = some j) ∧
    (∀ o, w.frozen? ⟨G, o, none⟩ = false) := by
  have k := fun i => cell_of_row w G i _ _ _ hb
  have k0 := k 0
  have k1 := k 1
  have k2 := k 2
  have k3 := k 3
  have k4 := k 4
  have k5 := k 5
  have k6 := k 6
  have k7 := k 7
  have k8 := k 8
  have k9 := k 9
  simp at k0 k1 k2 k3 k4 k5 k6 k7 k8 k9
  exact ⟨⟨k0, k1, k2, k3, k4, k5, k6, k7, k8, k9⟩, fun o => frozen_of_row w G o _ _ hb⟩
/-- whether a kind of statements has this number of names -/
def cntS (k : Int) (n : Nat) : Bool := if k = 1 then decide (0 < n) else if k = 5 then decide (n = 0) else decide (n = 1)
/-- the zero value, as a tree -/
def zeroT : Tr := .node ⟨0, ⟨#[]⟩, false, [], [], 0⟩ []
theorem zeroT_rd (w : World) : ERd w 1 [.int .i64 0, .string ⟨#[]⟩, .bool false, .slice none 0 0, .slice none 0 0, .slice none 0 0, .int .i64 0] zeroT :=
  ⟨none, 0, 0, none, 0, 0, none, 0, 0, rfl, IRd.nil w _, IRd.nil w _, ⟨rfl, Nat.le_refl _, by omega, by decide⟩, fun i hi => absurd hi (Nat.not_lt_zero i)⟩
end Go.Proofs.YtbioamglnndofaaDoor

set_option linter.unusedVariables false
set_option linter.unusedSimpArgs false
namespace Go.Proofs.YtbioamglnndofaaDoor
open Go.RowKit _root_.Nm Lx
/-- the error of a statement: bn: its names are names; z: its expression is zero; X: the error of its expression -/
def stE (k : Int) (n : Nat) (bn z : Bool) (e1 X : Int) : Int :=
  if k < 1 ∨ 5 < k then 8 else if cntS k n = false then 1 else if bn = false then 6 else if k = 1 then (if z = true then 0 else 1) else if e1 = 1 then 8 else X
end Go.Proofs.YtbioamglnndofaaDoor

set_option linter.unusedVariables false
set_option linter.unusedSimpArgs false
namespace Go.Proofs.YtbioamglnndofaaDoor
open Go.RowKit _root_.Nm Lx
end Go.Proofs.YtbioamglnndofaaDoor

set_option linter.unusedVariables false
set_option linter.unusedSimpArgs false
namespace Go.Proofs.YtbioamglnndofaaDoor
open Go.RowKit _root_.Nm Lx
theorem eq_zeroT {w : World} {m : Nat} {h : Hd} {l : List Tr} {e1 : Int} {e2 : ByteArray} {e3 : Bool} {p1 : Option Addr} {n1 c1 : Nat} {p2 : Option Addr} {n2 c2 : Nat} {p3 : Option Addr} {n3 c3 : Nat} {e7 : Int} (hE : ERd w (m + 1) [.int .i64 e1, .string e2, .bool e3, .slice p1 n1 c1, .slice p2 n2 c2, .slice p3 n3 c3, .int .i64 e7] (.node h l)) :
    EqP (m + 1) (.node h l) zeroT ↔ e1 = 0 ∧ e2.data.toList = [] ∧ (e3 = false ∧ n1 = 0 ∧ n2 = 0) ∧ n3 = 0 := by
  obtain ⟨⟨r1, r2, r3, r7⟩, hn, hd, hA, hnm⟩ := ARd.of hE
  have a1 := hn.len
  have a2 := hd.len
  have a3 := hA.1.1
  unfold zeroT EqP
  rw [← r1, ← r2, ← r3]
  constructor
  · rintro ⟨⟨h1, h2, h3, h4, h5⟩, h6, _⟩
    subst h1 h2 h3
    rw [h4] at a1
    rw [h5] at a2
    exact ⟨rfl, rfl, ⟨rfl, by simpa using a1.symm, by simpa using a2.symm⟩, by simp at h6; simp [h6] at a3; omega⟩
  · rintro ⟨h1, h2, ⟨h3, h4, h5⟩, h6⟩
    subst h4 h5 h6
    refine ⟨⟨h1, ?_, h3, List.eq_nil_of_length_eq_zero a1, List.eq_nil_of_length_eq_zero a2⟩, by simpa using a3, fun i hi hi' => absurd hi' (Nat.not_lt_zero i)⟩
    rw [← bytes_eq, Lib.toList_data, Lib.toList_data, h2]
/-- a statement in memory: its cells, its names, the tree of its expression -/
structure StOk (w : World) (cs : List Value) (k : Int) (L : List ByteArray) (m : Nat) (t : Tr) : Prop where
  mem : ∃ (pn : Option Addr) (nn cn : Nat) (ce : List Value) (o : Int), cs = [.int .i64 k, .slice pn nn cn] ++ ce ++ [.int .i64 o] ∧ NRd w pn nn cn L ∧ ERd w m ce t
  names : ∀ i (hi : i < L.length), (L[i]).size ≤ maxLen
theorem StOk.keep {w w' : World} {cs : List Value} {k : Int} {L : List ByteArray} {m : Nat} {t : Tr} (h : StOk w cs k L m t) (hg : w.grownBy w' none) : StOk w' cs k L m t := by
  obtain ⟨pn, nn, cn, ce, o, h1, h2, h3⟩ := h.mem
  exact ⟨⟨pn, nn, cn, ce, o, h1, h2.keep hg, h3.keep hg⟩, h.names⟩
end Go.Proofs.YtbioamglnndofaaDoor

set_option linter.unusedVariables false
set_option linter.unusedSimpArgs false
namespace Go.Proofs.YtbioamglnndofaaDoor
open Go.RowKit _root_.Nm Ax Lx
/-- each node has as many arguments as its kind has parameters; and its name, if it stands for one, is a name -/
def WfT : Nat → Tr → Prop
  | 0, _ => False
  | m + 1, .node h l => l.length = (prm h.k).length ∧ (h.k = 1 → isNm h.nm.data.toList = true) ∧ (h.k ≠ 1 → h.nm.data.toList = []) ∧ ∀ i (hi : i < l.length), WfT m l[i]
theorem scan_zero {X : Nat → Int} : ∀ {f k : Nat}, scan X k f = 0 → ∀ i, k ≤ i → i < k + f → X i = 0
  | 0, k, _, i, h1, h2 => by omega
  | f + 1, k, h, i, h1, h2 => by
    unfold scan at h
    by_cases h0 : X k = 0
    · rw [if_pos h0] at h
      by_cases hi : i = k
      · rw [hi]; exact h0
      · exact scan_zero h i (by omega) (by omega)
    · rw [if_neg h0] at h
      exact absurd h h0
theorem ratOk_p {w : World} (Tq : Tb w) (e1 : Int) (e3 : Bool) {p1 p2 : Option Addr} {n1 c1 n2 c2 : Nat} {xs ys : List Nat} (hr0 : IRd w .u16 p1 n1 c1 xs) (hx : Dg 65536 xs) (hr1 : IRd w .u16 p2 n2 c2 ys) (hy : Dg 65536 ys) (hn : n1 ≤ 1048576) (hm : n2 ≤ 1048576) :
    ∃ R, RatOk w e1 e3 p1 n1 c1 p2 n2 c2 R := by
  have l1 := hr0.len
  have l2 := hr1.len
  cases hb : ratB e1
  · obtain ⟨b, hb2⟩ := ex_bool (e3 = false ∧ xs = [] ∧ ys = [])
    refine ⟨b, ?_⟩
    have hN : ratB e1 = false → (b = true ↔ e3 = false ∧ n1 = 0 ∧ n2 = 0) := fun _ => by
      rw [hb2]
      constructor
      · rintro ⟨h1, rfl, rfl⟩
        exact ⟨h1, by simpa using l1.symm, by simpa using l2.symm⟩
      · rintro ⟨h1, rfl, rfl⟩
        exact ⟨h1, List.eq_nil_of_length_eq_zero l1, List.eq_nil_of_length_eq_zero l2⟩
    exact { right := fun h => (by rw [hb] at h; cases h), zero := fun _ W hW => equalRat_any e3 false p1 p2 Option.none Option.none n1 c1 n2 c2 0 0 0 0 xs ys [] [] b hb2 W (hr0.keep hW) (hr1.keep hW) (IRd.nil _ _) (IRd.nil _ _), none := hN }
  · obtain ⟨r, h1, _⟩ := right3_full_p Tq e3 hr0 hx hr1 hy (by omega) (by omega)
    exact ⟨r, { right := fun _ => h1, zero := fun h => (by rw [hb] at h; cases h), none := fun h => (by rw [hb] at h; cases h) }⟩
/-- the check of a tree, for every sort -/
def ChkOk_p (w : World) (cs : List Value) (m : Nat) (t : Tr) : Prop := ∀ s : Int, 0 ≤ s → s ≤ 4 → ∃ x : Int, (x = 0 → WfT m t) ∧
  (∀ W, w.grownBy W none → Calls Tryd.prog 11 #[.agg cs.toArray, .int .i64 s] W fun e w' => e = .returned (.int .i64 x) ∧ W.grownBy w' none)
theorem chk_pW : ∀ (m : Nat) (cs : List Value) (t : Tr) (w : World), Tb w → ERd w m cs t → DgF m t → szF m t ≤ 1048576 → ChkOk_p w cs m t
  | 0, _, _, _, _, h, _, _ => h.elim
  | m + 1, cs, .node h l, w, Tq, hE, hD, hsz => by
    intro s hs0 hs4
    obtain ⟨e1, e2, e3, p1, n1, c1, p2, n2, c2, p3, n3, c3, e7, rfl⟩ := hE.shape
    have hlen := sz_len hE
    obtain ⟨⟨r1, r2, r3, r7⟩, hn, hd, hA, hnm⟩ := ARd.of hE
    obtain ⟨⟨hla, hca, hma⟩, _⟩ := id hA
    have hln := hn.len
    have hld := hd.len
    obtain ⟨R, hR⟩ := ratOk_p Tq e1 e3 hn hD.1.1 hd hD.1.2 (by omega) (by omega)
    have hch : ∀ i (hi : i < n3), ∃ ci, ArgAt w p3 i ci ∧ ChkOk_p w ci m (l.getD i zeroT) := by
      intro i hi
      obtain ⟨b, o, x1, x2, x3, q1, m1, d1, q2, m2, d2, q3, m3, d3, x7, h1, hE2, a0, a1, a2, a3, a4, a5, a6⟩ := hA.at (i := i) (by omega)
      refine ⟨_, ⟨b, o, x1, x2, x3, q1, m1, d1, q2, m2, d2, q3, m3, d3, x7, h1, rfl, a0, a1, a2, a3, a4, a5, a6⟩, (show l.getD i zeroT = l[i] from by rw [List.getD_eq_getElem?_getD, List.getElem?_eq_getElem (by omega)]; rfl) ▸ chk_pW m _ _ w Tq hE2 (hD.2 i (by omega)) ?_⟩
      have := sz_child m h l (i := i) (by omega)
      omega
    have hCh : ∃ C : Nat → List Value, ∀ i (hi : i < n3), ArgAt w p3 i (C i) ∧ ChkOk_p w (C i) m (l.getD i zeroT) :=
      ⟨fun i => if hi : i < n3 then Classical.choose (hch i hi) else [], fun i hi => by
        dsimp only
        rw [dif_pos hi]
        exact Classical.choose_spec (hch i hi)⟩
    obtain ⟨C, hC⟩ := hCh
    have hXe : ∀ i (hi : i < n3 ∧ i < (prm e1).length), ∃ x : Int, (x = 0 → WfT m (l.getD i zeroT)) ∧
        (∀ W, w.grownBy W none → Calls Tryd.prog 11 #[.agg (C i).toArray, .int .i64 ((prm e1)[i]'hi.2 : Nat)] W fun e w' => e = .returned (.int .i64 x) ∧ W.grownBy w' none) := fun i hi => (hC i hi.1).2 _ (by omega) (by have := prm_sorts e1 i hi.2; omega)
    obtain ⟨X, hX⟩ : ∃ X : Nat → Int, ∀ i (hi : i < n3 ∧ i < (prm e1).length), (X i = 0 → WfT m (l.getD i zeroT)) ∧
        (∀ W, w.grownBy W none → Calls Tryd.prog 11 #[.agg (C i).toArray, .int .i64 ((prm e1)[i]'hi.2 : Nat)] W fun e w' => e = .returned (.int .i64 (X i)) ∧ W.grownBy w' none) :=
      ⟨fun i => if hi : i < n3 ∧ i < (prm e1).length then Classical.choose (hXe i hi) else 0, fun i hi => by
        dsimp only
        rw [dif_pos hi]
        exact Classical.choose_spec (hXe i hi)⟩
    refine ⟨if topE e1 s e2.data.toList n3 R = 0 then scan X 0 n3 else topE e1 s e2.data.toList n3 R, fun h0 => ?_, fun W hW => ?_⟩
    · by_cases ht : topE e1 s e2.data.toList n3 R = 0
      · rw [if_pos ht] at h0
        obtain ⟨_, z1, z2, z3, _⟩ := topE_zero ht
        refine ⟨by rw [hla, z3, r1], by rw [← r1, ← r2]; exact z1, by rw [← r1, ← r2]; exact z2, fun i hi => ?_⟩
        have := (hX i ⟨by omega, by omega⟩).1 (scan_zero h0 i (by omega) (by omega))
        rwa [List.getD_eq_getElem?_getD, List.getElem?_eq_getElem hi] at this
      · rw [if_neg ht] at h0
        exact absurd h0 ht
    · exact checkTree_n e1 e2 e3 p1 n1 c1 p2 n2 c2 p3 n3 c3 e7 s R W (hR.keep hW) hnm (by omega) ⟨hca, hma⟩ C X (fun i hi => (hC i hi).1.keep hW) (fun i hi hp W' hW' => (hX i ⟨hi, hp⟩).2 W' (grown_trans hW hW')) _ rfl
set_option maxHeartbeats 8000000 in
set_option maxRecDepth 100000 in
theorem check_pW (m : Nat) (cs : List Value) (t : Tr) (s : Int) (w : World) (Tq : Tb w) (hE : ERd w m cs t) (hD : DgF m t) (hsz : szF m t ≤ 1048576) : ∃ x : Int, (x = 0 → WfT m t ∧ dN m t ≤ 20) ∧ ((0 < s ∧ s < 5) → 20 < dN m t → x = 4) ∧
    (∀ W, w.grownBy W none → Calls Tryd.prog 5 #[.agg cs.toArray, .int .i64 s] W fun e w' => e = .returned (.int .i64 x) ∧ W.grownBy w' none) := by
  obtain ⟨e1, e2, e3, p1, n1, c1, p2, n2, c2, p3, n3, c3, e7, rfl⟩ := hE.shape
  have hds := dN_sz m t
  have HDe := hid fun w' (hg : w.grownBy w' none) (b : Bool) (hb : b = true ↔ 20 < dN m t) => deeper_any m _ t 20 b w' (by omega) (hE.keep hg) hb
  have HCK := hid (chk_pW m _ t w Tq hE hD hsz)
  clear hE hD hsz hds
  generalize dN m t = dd at *
  by_cases hr : s < 1 ∨ 4 < s
  · refine ⟨1, fun h => by omega, fun h => by omega, fun W hW => ?_⟩
    clear HCK HDe
    have hW1 := World.grownBy_alloc W (.cells #[.int .i64 e1, .string e2, .bool e3, .slice p1 n1 c1, .slice p2 n2 c2, .slice p3 n3 c3, .int .i64 e7] 30 (0, 0)) none
    by_cases h1 : s < 1
    · clear hr
      go_enter Tryd.func5, Tryd.ntmps5
      go_wp2_with fail
      go_ret
      exact ⟨rfl, hW1⟩
    · have h2 : 4 < s := by omega
      clear hr
      go_enter Tryd.func5, Tryd.ntmps5
      go_wp2_with fail
      go_ret
      exact ⟨rfl, hW1⟩
  · have h1 : ¬ s < 1 := by omega
    have h2 : ¬ 4 < s := by omega
    obtain ⟨x, X0, X1⟩ := HCK.out s (by omega) (by omega)
    have HX1 := hid X1
    clear X1 HCK hr
    by_cases hdp : 20 < dd
    · refine ⟨4, fun h => by omega, fun _ _ => rfl, fun W hW => ?_⟩
      have HD1 := hid fun w' (hg : W.grownBy w' none) => HDe.out w' (grown_trans hW hg) true (by simp [hdp])
      clear HDe HX1 X0
      have hW1 := World.grownBy_alloc W (.cells #[.int .i64 e1, .string e2, .bool e3, .slice p1 n1 c1, .slice p2 n2 c2, .slice p3 n3 c3, .int .i64 e7] 30 (0, 0)) none
      obtain ⟨⟨k0, k1, k2, k3, k4, k5, k6⟩, -⟩ := box7 (blk0 W (.cells #[.int .i64 e1, .string e2, .bool e3, .slice p1 n1 c1, .slice p2 n2 c2, .slice p3 n3 c3, .int .i64 e7] 30 (0, 0)))
      have hz : (20 : Int) < (dd : Int) := by omega
      go_enter Tryd.func5, Tryd.ntmps5
      go_upto_region 1 with fail
      generalize (W.alloc _) = w0 at *
      go_wp2_with (go_at_call 10; refine (HD1.out _ hW1).mono ?_; rintro e w1 ⟨rfl, hg⟩; replace hW1 := grown_trans hW1 hg)
      go_ret
      exact ⟨rfl, hW1⟩
    · refine ⟨x, fun h => ⟨X0 h, by omega⟩, fun _ h => absurd h hdp, fun W hW => ?_⟩
      have HD1 := hid fun w' (hg : W.grownBy w' none) => HDe.out w' (grown_trans hW hg) false (by simp; omega)
      have HC1 := hid fun w' (hg : W.grownBy w' none) => HX1.out w' (grown_trans hW hg)
      clear HDe HX1 X0
      have hW1 := World.grownBy_alloc W (.cells #[.int .i64 e1, .string e2, .bool e3, .slice p1 n1 c1, .slice p2 n2 c2, .slice p3 n3 c3, .int .i64 e7] 30 (0, 0)) none
      obtain ⟨⟨k0, k1, k2, k3, k4, k5, k6⟩, -⟩ := box7 (blk0 W (.cells #[.int .i64 e1, .string e2, .bool e3, .slice p1 n1 c1, .slice p2 n2 c2, .slice p3 n3 c3, .int .i64 e7] 30 (0, 0)))
      have hz : ¬ (20 : Int) < (dd : Int) := by omega
      go_enter Tryd.func5, Tryd.ntmps5
      go_upto_region 1 with fail
      generalize (W.alloc _) = w0 at *
      go_wp2_with (first | (go_at_call 10; refine (HD1.out _ hW1).mono ?_; rintro e w1 ⟨rfl, hg⟩; replace hW1 := grown_trans hW1 hg; replace k0 := hg.cell k0 (by simp); replace k1 := hg.cell k1 (by simp); replace k2 := hg.cell k2 (by simp); replace k3 := hg.cell k3 (by simp); replace k4 := hg.cell k4 (by simp); replace k5 := hg.cell k5 (by simp); replace k6 := hg.cell k6 (by simp)) | (go_at_call 11; refine (HC1.out _ hW1).mono ?_; rintro e w1 ⟨rfl, hg⟩; replace hW1 := grown_trans hW1 hg))
      go_ret
      exact ⟨rfl, hW1⟩
end Go.Proofs.YtbioamglnndofaaDoor

set_option linter.unusedVariables false
set_option linter.unusedSimpArgs false
namespace Go.Proofs.YtbioamglnndofaaDoor
open Go.RowKit _root_.Nm
/-- the cells of a statement of a list -/
def StAt (w : World) (p : Option Addr) (i : Nat) (cs : List Value) : Prop := ∃ (b o : Nat) (k : Int) (pn : Option Addr) (nn cn : Nat) (e1 : Int) (e2 : ByteArray) (e3 : Bool) (p1 : Option Addr) (n1 c1 : Nat) (p2 : Option Addr) (n2 c2 : Nat) (p3 : Option Addr) (n3 c3 : Nat) (e7 o9 : Int), p = some ⟨b, o, none⟩ ∧ cs = [.int .i64 k, .slice pn nn cn, .int .i64 e1, .string e2, .bool e3, .slice p1 n1 c1, .slice p2 n2 c2, .slice p3 n3 c3, .int .i64 e7, .int .i64 o9] ∧ w.cell? ⟨b, o + i * 10, none⟩ = some (.int .i64 k) ∧ w.cell? ⟨b, o + i * 10 + 1, none⟩ = some (.slice pn nn cn) ∧ w.cell? ⟨b, o + i * 10 + 2, none⟩ = some (.int .i64 e1) ∧ w.cell? ⟨b, o + i * 10 + 3, none⟩ = some (.string e2) ∧ w.cell? ⟨b, o + i * 10 + 4, none⟩ = some (.bool e3) ∧ w.cell? ⟨b, o + i * 10 + 5, none⟩ = some (.slice p1 n1 c1) ∧ w.cell? ⟨b, o + i * 10 + 6, none⟩ = some (.slice p2 n2 c2) ∧ w.cell? ⟨b, o + i * 10 + 7, none⟩ = some (.slice p3 n3 c3) ∧ w.cell? ⟨b, o + i * 10 + 8, none⟩ = some (.int .i64 e7) ∧ w.cell? ⟨b, o + i * 10 + 9, none⟩ = some (.int .i64 o9)
theorem StAt.keep {w w' : World} {p : Option Addr} {i : Nat} {cs : List Value} (h : StAt w p i cs) (hg : w.grownBy w' none) : StAt w' p i cs := by
  obtain ⟨b, o, k, pn, nn, cn, e1, e2, e3, p1, n1, c1, p2, n2, c2, p3, n3, c3, e7, o9, h1, h2, a0, a1, a2, a3, a4, a5, a6, a7, a8, a9⟩ := h
  exact ⟨b, o, k, pn, nn, cn, e1, e2, e3, p1, n1, c1, p2, n2, c2, p3, n3, c3, e7, o9, h1, h2, hg.cell a0 (by simp), hg.cell a1 (by simp), hg.cell a2 (by simp), hg.cell a3 (by simp), hg.cell a4 (by simp), hg.cell a5 (by simp), hg.cell a6 (by simp), hg.cell a7 (by simp), hg.cell a8 (by simp), hg.cell a9 (by simp)⟩
/-- the first statement with an error, and its error -/
def scanP (X : Nat → Int) : Nat → Nat → Int × Int
  | _, 0 => (0, 0)
  | k, f + 1 => if X k = 0 then scanP X (k + 1) f else ((k : Int), X k)
theorem scanP_step {X : Nat → Int} {k n : Nat} (hk : k < n) : scanP X k (n - k) = if X k = 0 then scanP X (k + 1) (n - (k + 1)) else ((k : Int), X k) := by
  rw [show n - k = (n - (k + 1)) + 1 by omega]
  rfl
end Go.Proofs.YtbioamglnndofaaDoor

set_option linter.unusedVariables false
set_option linter.unusedSimpArgs false
namespace Go.Proofs.YtbioamglnndofaaDoor
open Go.RowKit _root_.Nm
/-- the number of parts -/
def cntN : Nat → Tr → Nat
  | 0, _ => 0
  | m + 1, .node _ l => 1 + (l.map (cntN m)).sum
theorem cntN_succ (m : Nat) (h : Hd) (l : List Tr) : cntN (m + 1) (.node h l) = 1 + (l.map (cntN m)).sum := rfl
theorem sum_take_succ {l : List Nat} {k : Nat} (hk : k < l.length) : (l.take (k + 1)).sum = (l.take k).sum + l[k] := by
  rw [List.take_add_one, List.getElem?_eq_getElem hk]
  simp only [Option.toList, List.sum_append, List.sum_cons, List.sum_nil, Nat.add_zero]
theorem sum_take_le {l : List Nat} (k : Nat) : (l.take k).sum ≤ l.sum := by
  have := List.sum_append (l₁ := l.take k) (l₂ := l.drop k)
  rw [List.take_append_drop] at this
  omega
def CellB (w : World) (B : Nat) (x : Nat) : Prop := w.heap[B]? = some (.cells #[.int .i64 (x : Nat)] 3 (0, 0))
/-- the other blocks stay -/
def KeepB (w w' : World) (B : Nat) : Prop := (∀ G O, G ≠ B → w.heap[G]? = some O → w'.heap[G]? = some O) ∧ w.heap.size ≤ w'.heap.size
theorem KeepB.trans {w w' w'' : World} {B : Nat} (h : KeepB w w' B) (h' : KeepB w' w'' B) : KeepB w w'' B := ⟨fun G O hG hO => h'.1 G O hG (h.1 G O hG hO), Nat.le_trans h.2 h'.2⟩
theorem KeepB.grown {w w' : World} {B : Nat} (h : w.grownBy w' none) : KeepB w w' B := ⟨fun G O _ hO => keepB hO h, h.size⟩
end Go.Proofs.YtbioamglnndofaaDoor

set_option linter.unusedVariables false
set_option linter.unusedSimpArgs false
namespace Go.Proofs.YtbioamglnndofaaDoor
open Go.RowKit _root_.Nm
theorem box1d {w : World} {G : Nat} {a : Value} {T : TypeId} (hb : w.heap[G]? = some (.cells #[a] T (0, 0))) : w.cell? ⟨G, 0, none⟩ = some a ∧ w.frozen? ⟨G, 0, none⟩ = false := by
  have k0 := cell_of_row w G 0 _ _ _ hb
  simp at k0
  exact ⟨k0, frozen_of_row w G 0 _ _ hb⟩
theorem cntF_cntN : ∀ (m : Nat) (t : Tr), cntN m t ≤ 2000000000 → cntF m t = (cntN m t : Int)
  | 0, _, _ => rfl
  | m + 1, .node h l, hd => by
    rw [cntN_succ] at hd ⊢
    rw [cntF_succ]
    unfold sumC
    have hm : ∀ (L : List Tr) (a : Nat), a + (L.map (cntN m)).sum ≤ 2000000000 → (L.map (cntF m)).foldl (fun a b => wrap64 (a + b)) (a : Int) = ((a + (L.map (cntN m)).sum : Nat) : Int) := by
      intro L
      induction L with
      | nil => intro a _; simp
      | cons x r ih =>
        intro a hL
        rw [List.map_cons, List.sum_cons] at hL
        rw [List.map_cons, List.foldl_cons, List.map_cons, List.sum_cons, cntF_cntN m x (by omega), show wrap64 ((a : Int) + ((cntN m x : Nat) : Int)) = ((a + cntN m x : Nat) : Int) by unfold wrap64; omega, ih _ (by omega)]
        congr 1
        omega
    have := hm l 1 hd
    simpa using this
/-- a list of statements in memory: kinds and trees -/
def StsAt (w : World) (p : Option Addr) (n m : Nat) (K : Nat → Int) (G : Nat → Tr) : Prop := ∀ i, i < n → ∃ (b o : Nat) (pn : Option Addr) (nn cn : Nat) (e1 : Int) (e2 : ByteArray) (e3 : Bool) (p1 : Option Addr) (n1 c1 : Nat) (p2 : Option Addr) (n2 c2 : Nat) (p3 : Option Addr) (n3 c3 : Nat) (e7 o9 : Int), p = some ⟨b, o, none⟩ ∧ ERd w m [.int .i64 e1, .string e2, .bool e3, .slice p1 n1 c1, .slice p2 n2 c2, .slice p3 n3 c3, .int .i64 e7] (G i) ∧ w.cell? ⟨b, o + i * 10, none⟩ = some (.int .i64 (K i)) ∧ w.cell? ⟨b, o + i * 10 + 1, none⟩ = some (.slice pn nn cn) ∧ w.cell? ⟨b, o + i * 10 + 2, none⟩ = some (.int .i64 e1) ∧ w.cell? ⟨b, o + i * 10 + 3, none⟩ = some (.string e2) ∧ w.cell? ⟨b, o + i * 10 + 4, none⟩ = some (.bool e3) ∧ w.cell? ⟨b, o + i * 10 + 5, none⟩ = some (.slice p1 n1 c1) ∧ w.cell? ⟨b, o + i * 10 + 6, none⟩ = some (.slice p2 n2 c2) ∧ w.cell? ⟨b, o + i * 10 + 7, none⟩ = some (.slice p3 n3 c3) ∧ w.cell? ⟨b, o + i * 10 + 8, none⟩ = some (.int .i64 e7) ∧ w.cell? ⟨b, o + i * 10 + 9, none⟩ = some (.int .i64 o9)
/-- the parts of the statements before k -/
def sizS (m : Nat) (K : Nat → Int) (G : Nat → Tr) : Nat → Nat
  | 0 => 0
  | k + 1 => sizS m K G k + if K k = 1 then 0 else cntN m (G k)
theorem sizS_succ (m : Nat) (K : Nat → Int) (G : Nat → Tr) (k : Nat) : sizS m K G (k + 1) = sizS m K G k + if K k = 1 then 0 else cntN m (G k) := rfl
theorem sizS_mono {m : Nat} {K : Nat → Int} {G : Nat → Tr} : ∀ {n k : Nat}, k ≤ n → sizS m K G k ≤ sizS m K G n
  | 0, k, h => by obtain rfl : k = 0 := by omega
                  exact Nat.le_refl _
  | n + 1, k, h => by
    by_cases hk : k = n + 1
    · rw [hk]; exact Nat.le_refl _
    · have := sizS_mono (m := m) (K := K) (G := G) (n := n) (k := k) (by omega)
      rw [sizS_succ]
      omega
end Go.Proofs.YtbioamglnndofaaDoor

set_option linter.unusedVariables false
set_option linter.unusedSimpArgs false
namespace Go.Proofs.YtbioamglnndofaaDoor
open Go.RowKit _root_.Nm Ax Lx
theorem adds_same : ∀ (xs l : List ByteArray), (∀ x, x ∈ xs → x ∈ l) → xs.foldl add1 l = l
  | [], _, _ => rfl
  | a :: r, l, h => by
    rw [List.foldl_cons, add1_old (h a (by simp))]
    exact adds_same r l fun x hx => h x (by simp [hx])
theorem ded_twice (l : List ByteArray) : ded (l ++ l) = ded l := by
  unfold ded
  rw [List.foldl_append]
  exact adds_same l _ fun x hx => mem_adds.2 (.inr hx)
theorem pre_cnt : ∀ (m : Nat) (t : Tr), (preF m t).length ≤ cntN m t
  | 0, _ => by simp [preF, cntN]
  | m + 1, .node h l => by
    rw [cntN_succ]
    show ((if h.k = 1 then [h.nm] else []) ++ (l.map (preF m)).flatten).length ≤ _
    rw [List.length_append]
    have h1 : (if h.k = 1 then [h.nm] else []).length ≤ 1 := by split <;> simp
    have h2 : (l.map (preF m)).flatten.length ≤ (l.map (cntN m)).sum := by
      induction l with
      | nil => simp
      | cons x r ih =>
        have := pre_cnt m x
        rw [List.map_cons, List.flatten_cons, List.length_append, List.map_cons, List.sum_cons]
        omega
    omega
theorem cntN_szW : ∀ (m : Nat) (t : Tr), cntN m t ≤ szF m t
  | 0, _ => Nat.le_refl _
  | m + 1, .node h l => by
    rw [cntN_succ, szF_succ]
    have : (l.map (cntN m)).sum ≤ (l.map (szF m)).sum := by
      induction l with
      | nil => exact Nat.le_refl _
      | cons x r ih =>
        have := cntN_szW m x
        simp only [List.map_cons, List.sum_cons]
        omega
    omega
/-- the midpoint of a tree with itself -/
def midT (t : Tr) : Tr := .node ⟨10, ⟨#[]⟩, false, [], [], 0⟩ [t, t]
theorem midT_pre (m : Nat) (t : Tr) : preF (m + 1) (midT t) = preF m t ++ preF m t := by
  show (if (10 : Int) = 1 then [(⟨#[]⟩ : ByteArray)] else []) ++ ([t, t].map (preF m)).flatten = _
  simp
theorem midT_dN (m : Nat) (t : Tr) : dN (m + 1) (midT t) = dN m t + 1 := by
  unfold midT
  rw [dN_succ]
  simp
theorem midT_rd {W : World} {m G : Nat} {t : Tr} (e1 : Int) (e2 : ByteArray) (e3 : Bool) (p1 : Option Addr) (n1 c1 : Nat) (p2 : Option Addr) (n2 c2 : Nat) (p3 : Option Addr) (n3 c3 : Nat) (e7 : Int) {T : TypeId} (hE : ERd W m [.int .i64 e1, .string e2, .bool e3, .slice p1 n1 c1, .slice p2 n2 c2, .slice p3 n3 c3, .int .i64 e7] t) (hb : W.heap[G]? = some (.cells #[.int .i64 e1, .string e2, .bool e3, .slice p1 n1 c1, .slice p2 n2 c2, .slice p3 n3 c3, .int .i64 e7, .int .i64 e1, .string e2, .bool e3, .slice p1 n1 c1, .slice p2 n2 c2, .slice p3 n3 c3, .int .i64 e7] T (0, 0))) :
    ERd W (m + 1) [.int .i64 10, .string ⟨#[]⟩, .bool false, .slice none 0 0, .slice none 0 0, .slice (some ⟨G, 0, none⟩) 2 2, .int .i64 0] (midT t) := by
  refine ⟨none, 0, 0, none, 0, 0, some ⟨G, 0, none⟩, 2, 2, rfl, IRd.nil W _, IRd.nil W _, ⟨rfl, Nat.le_refl _, by omega, by decide⟩, fun i hi => ?_⟩
  have k := fun j => cell_of_row W G j _ _ _ hb
  have h2 : i = 0 ∨ i = 1 := by simp at hi; omega
  rcases h2 with rfl | rfl
  · refine ⟨G, 0, [.int .i64 e1, .string e2, .bool e3, .slice p1 n1 c1, .slice p2 n2 c2, .slice p3 n3 c3, .int .i64 e7], rfl, rfl, fun j hj => ?_, hE⟩
    have hj7 : j = 0 ∨ j = 1 ∨ j = 2 ∨ j = 3 ∨ j = 4 ∨ j = 5 ∨ j = 6 := by simp at hj; omega
    rcases hj7 with rfl | rfl | rfl | rfl | rfl | rfl | rfl <;> (have := k 0; have := k 1; have := k 2; have := k 3; have := k 4; have := k 5; have := k 6; simp_all)
  · refine ⟨G, 0, [.int .i64 e1, .string e2, .bool e3, .slice p1 n1 c1, .slice p2 n2 c2, .slice p3 n3 c3, .int .i64 e7], rfl, rfl, fun j hj => ?_, hE⟩
    have hj7 : j = 0 ∨ j = 1 ∨ j = 2 ∨ j = 3 ∨ j = 4 ∨ j = 5 ∨ j = 6 := by simp at hj; omega
    rcases hj7 with rfl | rfl | rfl | rfl | rfl | rfl | rfl <;> (have := k 7; have := k 8; have := k 9; have := k 10; have := k 11; have := k 12; have := k 13; simp_all)
/-- Check, when the answer of checkTree is known -/
theorem check_of (m : Nat) (cs : List Value) (t : Tr) (s x : Int) (hs : 1 ≤ s ∧ s ≤ 4) (w : World) (hE : ERd w m cs t) (hd : dN m t ≤ 1048576) (hX : ¬ 20 < dN m t → ∀ W, w.grownBy W none → Calls Tryd.prog 11 #[.agg cs.toArray, .int .i64 s] W fun e w' => e = .returned (.int .i64 x) ∧ W.grownBy w' none) :
    ∀ W, w.grownBy W none → Calls Tryd.prog 5 #[.agg cs.toArray, .int .i64 s] W fun e w' => e = .returned (.int .i64 (if 20 < dN m t then 4 else x)) ∧ W.grownBy w' none := by
  obtain ⟨e1, e2, e3, p1, n1, c1, p2, n2, c2, p3, n3, c3, e7, rfl⟩ := hE.shape
  have HDe := hid fun w' (hg : w.grownBy w' none) (b : Bool) (hb : b = true ↔ 20 < dN m t) => deeper_any m _ t 20 b w' (by omega) (hE.keep hg) hb
  have HX := hid hX
  clear hX hE hd
  generalize dN m t = dd at *
  have h1 : ¬ s < 1 := by omega
  have h2 : ¬ 4 < s := by omega
  clear hs
  intro W hW
  have hW1 := World.grownBy_alloc W (.cells #[.int .i64 e1, .string e2, .bool e3, .slice p1 n1 c1, .slice p2 n2 c2, .slice p3 n3 c3, .int .i64 e7] 30 (0, 0)) none
  obtain ⟨⟨k0, k1, k2, k3, k4, k5, k6⟩, -⟩ := box7 (blk0 W (.cells #[.int .i64 e1, .string e2, .bool e3, .slice p1 n1 c1, .slice p2 n2 c2, .slice p3 n3 c3, .int .i64 e7] 30 (0, 0)))
  by_cases hdp : 20 < dd
  · rw [if_pos hdp]
    have HD1 := hid fun w' (hg : W.grownBy w' none) => HDe.out w' (grown_trans hW hg) true (by simp [hdp])
    clear HDe HX
    go_enter Tryd.func5, Tryd.ntmps5
    go_upto_region 1 with fail
    generalize (W.alloc _) = w0 at *
    go_wp2_with (go_at_call 10; refine (HD1.out _ hW1).mono ?_; rintro e w1 ⟨rfl, hg⟩; replace hW1 := grown_trans hW1 hg)
    go_ret
    exact ⟨rfl, hW1⟩
  · rw [if_neg hdp]
    have HD1 := hid fun w' (hg : W.grownBy w' none) => HDe.out w' (grown_trans hW hg) false (by simp; omega)
    have HC1 := hid fun w' (hg : W.grownBy w' none) => HX.out hdp w' (grown_trans hW hg)
    clear HDe HX
    go_enter Tryd.func5, Tryd.ntmps5
    go_upto_region 1 with fail
    generalize (W.alloc _) = w0 at *
    go_wp2_with (first | (go_at_call 10; refine (HD1.out _ hW1).mono ?_; rintro e w1 ⟨rfl, hg⟩; replace hW1 := grown_trans hW1 hg; replace k0 := hg.cell k0 (by simp); replace k1 := hg.cell k1 (by simp); replace k2 := hg.cell k2 (by simp); replace k3 := hg.cell k3 (by simp); replace k4 := hg.cell k4 (by simp); replace k5 := hg.cell k5 (by simp); replace k6 := hg.cell k6 (by simp)) | (go_at_call 11; refine (HC1.out _ hW1).mono ?_; rintro e w1 ⟨rfl, hg⟩; replace hW1 := grown_trans hW1 hg))
    go_ret
    exact ⟨rfl, hW1⟩
theorem prm10 : prm 10 = [1, 1] := by decide
theorem scan2 (X : Nat → Int) (h : ∀ i, X i = 0) : scan X 0 2 = 0 := by
  unfold scan
  rw [if_pos (h 0)]
  unfold scan
  rw [if_pos (h 1)]
  rfl
theorem top1 : topE 10 1 [] 2 true = 0 := by decide
theorem top2 : topE 10 2 [] 2 true = 8 := by decide
theorem rat10 : ratB 10 = false := by decide
set_option maxHeartbeats 64000000 in
set_option maxRecDepth 100000 in
theorem astWraps_walk (m : Nat) (cs : List Value) (t : Tr) (w : World) (Tq : Tb w) (hE : ERd w m cs t) (hD : DgF m t) (hsz : szF m t ≤ 1048576) :
    Calls Tryd.prog 3 #[.agg cs.toArray] w fun e w' => e = .returned (.bool true) ∧ w.grownBy w' none := by
  obtain ⟨e1, e2, e3, p1, n1, c1, p2, n2, c2, p3, n3, c3, e7, rfl⟩ := hE.shape
  have hdsz := dN_sz m t
  have hcs := cntN_szW m t
  have hpc := pre_cnt m t
  have hcf := cntF_cntN m t (by omega)
  obtain ⟨bs, hbs⟩ : ∃ b, decide (cntF m t ≤ 300) = b := ⟨_, rfl⟩
  have HSM := hid fun w' (hg : w.grownBy w' none) => small_e m _ t bs hbs w' (hE.keep hg)
  obtain ⟨x, hx0, hxc⟩ := chk_pW m _ t w Tq hE hD hsz 1 (by omega) (by omega)
  have HCE := hid (check_of m _ t 1 x (by omega) w hE (by omega) (fun _ => hxc))
  have HXC := hid hxc
  clear hxc hx0
  have hW := World.grownBy_alloc w (.cells #[.int .i64 e1, .string e2, .bool e3, .slice p1 n1 c1, .slice p2 n2 c2, .slice p3 n3 c3, .int .i64 e7] 30 (0, 0)) none
  obtain ⟨⟨k0, k1, k2, k3, k4, k5, k6⟩, -⟩ := box7 (blk0 w (.cells #[.int .i64 e1, .string e2, .bool e3, .slice p1 n1 c1, .slice p2 n2 c2, .slice p3 n3 c3, .int .i64 e7] 30 (0, 0)))
  cases bs
  · clear HCE HXC hE hD hsz hdsz hcs hpc hcf hbs Tq
    go_enter Tryd.func3, Tryd.ntmps3
    go_upto_region 1 with fail
    generalize (w.alloc _) = w0 at *
    go_wp2_with (go_at_call 4; refine (HSM.out _ hW).mono ?_; rintro e w1 ⟨rfl, hg⟩; replace hW := grown_trans hW hg)
    go_ret
    exact ⟨rfl, hW⟩
  have hc300 : cntN m t ≤ 300 := by
    have := of_decide_eq_true hbs
    rw [hcf] at this
    omega
  obtain ⟨d, hd⟩ : ∃ d, d = dN m t := ⟨_, rfl⟩
  rw [← hd] at HCE
  by_cases hbad : (if 20 < d then 4 else x) ≠ 0
  · obtain ⟨v, hv⟩ : ∃ v, v = if 20 < d then 4 else x := ⟨_, rfl⟩
    rw [← hv] at HCE hbad
    have hvb : (v != 0) = true := by simpa using hbad
    clear HXC hE hD hsz hdsz hcs hpc hcf hbs Tq hv hc300 hd hbad
    go_enter Tryd.func3, Tryd.ntmps3
    go_upto_region 1 with fail
    generalize (w.alloc _) = w0 at *
    go_wp2_with (first | (go_at_call 4; refine (HSM.out _ hW).mono ?_; rintro e w1 ⟨rfl, hg⟩; replace hW := grown_trans hW hg; replace k0 := hg.cell k0 (by simp); replace k1 := hg.cell k1 (by simp); replace k2 := hg.cell k2 (by simp); replace k3 := hg.cell k3 (by simp); replace k4 := hg.cell k4 (by simp); replace k5 := hg.cell k5 (by simp); replace k6 := hg.cell k6 (by simp); clear hg) | (go_at_call 5; refine (HCE.out _ hW).mono ?_; rintro e w1 ⟨rfl, hg⟩; replace hW := grown_trans hW hg; clear hg))
    go_ret
    exact ⟨rfl, hW⟩
  have hd20 : ¬ 20 < d := by
    intro h
    rw [if_pos h] at hbad
    exact hbad (by omega)
  obtain rfl : x = 0 := by
    rw [if_neg hd20] at hbad
    omega
  rw [if_neg hd20] at HCE
  clear hbad
  -- what holds of the new node, whatever world it lies in
  have HNEW : Hid (∀ (W : World) (G : Nat), w.grownBy W none → W.heap[G]? = some (.cells #[.int .i64 e1, .string e2, .bool e3, .slice p1 n1 c1, .slice p2 n2 c2, .slice p3 n3 c3, .int .i64 e7, .int .i64 e1, .string e2, .bool e3, .slice p1 n1 c1, .slice p2 n2 c2, .slice p3 n3 c3, .int .i64 e7] 30 (0, 0)) → ERd W (m + 1) [.int .i64 10, .string ⟨#[]⟩, .bool false, .slice none 0 0, .slice none 0 0, .slice (some ⟨G, 0, none⟩) 2 2, .int .i64 0] (midT t)) := hid fun W G hg hb => midT_rd e1 e2 e3 p1 n1 c1 p2 n2 c2 p3 n3 c3 e7 (hE.keep hg) hb
  have hdepE : depF m t = (d : Int) := by rw [hd]; exact depF_dN m t (by omega)
  have hdepX : depF (m + 1) (midT t) = (d : Int) + 1 := by
    rw [depF_dN (m + 1) (midT t) (by rw [midT_dN]; omega), midT_dN, ← hd]
    omega
  have HTOP : Hid (∀ (W : World) (G : Nat) (s : Int), (s = 1 ∨ s = 2) → w.grownBy W none → W.heap[G]? = some (.cells #[.int .i64 e1, .string e2, .bool e3, .slice p1 n1 c1, .slice p2 n2 c2, .slice p3 n3 c3, .int .i64 e7, .int .i64 e1, .string e2, .bool e3, .slice p1 n1 c1, .slice p2 n2 c2, .slice p3 n3 c3, .int .i64 e7] 30 (0, 0)) → ∀ W', W.grownBy W' none → Calls Tryd.prog 5 #[.agg #[.int .i64 10, .string ⟨#[]⟩, .bool false, .slice none 0 0, .slice none 0 0, .slice (some ⟨G, 0, none⟩) 2 2, .int .i64 0], .int .i64 s] W' fun e w' => e = .returned (.int .i64 (if 20 < d + 1 then 4 else if s = 1 then 0 else 8)) ∧ W'.grownBy w' none) := hid fun W G s hs hg hb => by
    have hEX := HNEW.out W G hg hb
    have h1 := check_of (m + 1) _ (midT t) s (if s = 1 then 0 else 8) (by omega) W hEX (by rw [midT_dN]; omega) (fun hdd W' hW' => ?_)
    · rw [midT_dN, ← hd] at h1
      exact h1
    · have hR : RatOk W 10 false none 0 0 none 0 0 true :=
        { right := fun h => (by rw [rat10] at h; cases h)
          zero := fun _ W2 hW2 => equalRat_any false false none none none none 0 0 0 0 0 0 0 0 [] [] [] [] true (by simp) W2 (IRd.nil _ _) (IRd.nil _ _) (IRd.nil _ _) (IRd.nil _ _)
          none := fun _ => (by simp) }
      have k := fun j => cell_of_row W G j _ _ _ hb
      refine checkTree_n 10 ⟨#[]⟩ false none 0 0 none 0 0 (some ⟨G, 0, none⟩) 2 2 0 s true W' (hR.keep hW') (by decide) (by omega) ⟨Nat.le_refl _, by omega⟩ (fun _ => [.int .i64 e1, .string e2, .bool e3, .slice p1 n1 c1, .slice p2 n2 c2, .slice p3 n3 c3, .int .i64 e7]) (fun _ => 0) (fun i hi => ?_) (fun i hi hp W2 hW2 => ?_) _ ?_
      · have h2 : i = 0 ∨ i = 1 := by omega
        rcases h2 with rfl | rfl
        · exact ⟨G, 0, e1, e2, e3, p1, n1, c1, p2, n2, c2, p3, n3, c3, e7, rfl, rfl, hW'.cell (by have := k 0; simpa using this) (by simp), hW'.cell (by have := k 1; simpa using this) (by simp), hW'.cell (by have := k 2; simpa using this) (by simp), hW'.cell (by have := k 3; simpa using this) (by simp), hW'.cell (by have := k 4; simpa using this) (by simp), hW'.cell (by have := k 5; simpa using this) (by simp), hW'.cell (by have := k 6; simpa using this) (by simp)⟩
        · exact ⟨G, 0, e1, e2, e3, p1, n1, c1, p2, n2, c2, p3, n3, c3, e7, rfl, rfl, hW'.cell (by have := k 7; simpa using this) (by simp), hW'.cell (by have := k 8; simpa using this) (by simp), hW'.cell (by have := k 9; simpa using this) (by simp), hW'.cell (by have := k 10; simpa using this) (by simp), hW'.cell (by have := k 11; simpa using this) (by simp), hW'.cell (by have := k 12; simpa using this) (by simp), hW'.cell (by have := k 13; simpa using this) (by simp)⟩
      · have hp1 : (prm 10)[i]'hp = 1 := by
          have h2 : i = 0 ∨ i = 1 := by omega
          rcases h2 with rfl | rfl <;> rfl
        rw [hp1]
        exact HXC.out W2 (grown_trans hg (grown_trans hW' hW2))
      · rcases hs with rfl | rfl
        · rw [show (⟨#[]⟩ : ByteArray).data.toList = [] from rfl, top1, if_pos rfl, if_pos rfl, scan2 _ (fun _ => rfl)]
        · rw [show (⟨#[]⟩ : ByteArray).data.toList = [] from rfl, top2, if_neg (by omega), if_neg (by omega)]
  have HDE := hid fun w' (hg : w.grownBy w' none) => depth_any m _ t w' (hE.keep hg)
  rw [hdepE] at HDE
  have HDX : Hid (∀ (W : World) (G : Nat), w.grownBy W none → W.heap[G]? = some (.cells #[.int .i64 e1, .string e2, .bool e3, .slice p1 n1 c1, .slice p2 n2 c2, .slice p3 n3 c3, .int .i64 e7, .int .i64 e1, .string e2, .bool e3, .slice p1 n1 c1, .slice p2 n2 c2, .slice p3 n3 c3, .int .i64 e7] 30 (0, 0)) → ∀ W', W.grownBy W' none → Calls Tryd.prog 6 #[.agg #[.int .i64 10, .string ⟨#[]⟩, .bool false, .slice none 0 0, .slice none 0 0, .slice (some ⟨G, 0, none⟩) 2 2, .int .i64 0]] W' fun e w' => e = .returned (.int .i64 ((d : Int) + 1)) ∧ W'.grownBy w' none) := hid fun W G hg hb W' hW' => by
    have := depth_any (m + 1) _ (midT t) W' ((HNEW.out W G hg hb).keep hW')
    rwa [hdepX] at this
  have HNE := hid fun w' (hg : w.grownBy w' none) => names_any m _ t w' (hE.keep hg) (by omega)
  have HNX : Hid (∀ (W : World) (G : Nat), w.grownBy W none → W.heap[G]? = some (.cells #[.int .i64 e1, .string e2, .bool e3, .slice p1 n1 c1, .slice p2 n2 c2, .slice p3 n3 c3, .int .i64 e7, .int .i64 e1, .string e2, .bool e3, .slice p1 n1 c1, .slice p2 n2 c2, .slice p3 n3 c3, .int .i64 e7] 30 (0, 0)) → ∀ W', W.grownBy W' none → Calls Tryd.prog 8 #[.agg #[.int .i64 10, .string ⟨#[]⟩, .bool false, .slice none 0 0, .slice none 0 0, .slice (some ⟨G, 0, none⟩) 2 2, .int .i64 0]] W' fun e w' => ∃ p n c, e = .returned (.slice p n c) ∧ NRd w' p n c (ded (preF m t)) ∧ W'.grownBy w' none) := hid fun W G hg hb W' hW' => by
    have := names_any (m + 1) _ (midT t) W' ((HNEW.out W G hg hb).keep hW') (by rw [midT_pre, List.length_append]; omega)
    rwa [midT_pre, ded_twice] at this
  clear HNEW HXC hE hD hsz hdsz hcs hpc hcf hbs Tq hc300 hd hdepE hdepX
  generalize ded (preF m t) = L at *
  have hdd : IntKind.i64.wrap ((d : Int) + 1) = (d : Int) + 1 := by rw [IntWalk.i64_left]; exact Go.IntWalk.wrap64_in _ (by omega)
  go_enter Tryd.func3, Tryd.ntmps3
  go_upto_region 1 with fail
  generalize (w.alloc _) = w0 at *
  have hz14 : ∀ W : World, True := fun _ => trivial
  go_upto_region 3 with (first | (go_at_call 4; refine (HSM.out _ hW).mono ?_; rintro e w1 ⟨rfl, hg⟩; replace hW := grown_trans hW hg; replace k0 := hg.cell k0 (by simp); replace k1 := hg.cell k1 (by simp); replace k2 := hg.cell k2 (by simp); replace k3 := hg.cell k3 (by simp); replace k4 := hg.cell k4 (by simp); replace k5 := hg.cell k5 (by simp); replace k6 := hg.cell k6 (by simp); clear hg) | (go_at_call 5; refine (HCE.out _ hW).mono ?_; rintro e w1 ⟨rfl, hg⟩; replace hW := grown_trans hW hg; replace k0 := hg.cell k0 (by simp); replace k1 := hg.cell k1 (by simp); replace k2 := hg.cell k2 (by simp); replace k3 := hg.cell k3 (by simp); replace k4 := hg.cell k4 (by simp); replace k5 := hg.cell k5 (by simp); replace k6 := hg.cell k6 (by simp); clear hg))
  clear HSM HCE hz14
  have hG1 := World.grownBy_alloc w1 (.cells #[.int .i64 e1, .string e2, .bool e3, .slice p1 n1 c1, .slice p2 n2 c2, .slice p3 n3 c3, .int .i64 e7, .int .i64 e1, .string e2, .bool e3, .slice p1 n1 c1, .slice p2 n2 c2, .slice p3 n3 c3, .int .i64 e7] 30 (0, 0)) none
  have hG2 := World.grownBy_alloc (w1.alloc (.cells #[.int .i64 e1, .string e2, .bool e3, .slice p1 n1 c1, .slice p2 n2 c2, .slice p3 n3 c3, .int .i64 e7, .int .i64 e1, .string e2, .bool e3, .slice p1 n1 c1, .slice p2 n2 c2, .slice p3 n3 c3, .int .i64 e7] 30 (0, 0))) (.cells #[.int .i64 10, .string ⟨#[]⟩, .bool false, .slice none 0 0, .slice none 0 0, .slice (some ⟨w1.heap.size, 0, none⟩) 2 2, .int .i64 0] 30 (0, 0)) none
  have hb1 : ((w1.alloc (.cells #[.int .i64 e1, .string e2, .bool e3, .slice p1 n1 c1, .slice p2 n2 c2, .slice p3 n3 c3, .int .i64 e7, .int .i64 e1, .string e2, .bool e3, .slice p1 n1 c1, .slice p2 n2 c2, .slice p3 n3 c3, .int .i64 e7] 30 (0, 0))).alloc (.cells #[.int .i64 10, .string ⟨#[]⟩, .bool false, .slice none 0 0, .slice none 0 0, .slice (some ⟨w1.heap.size, 0, none⟩) 2 2, .int .i64 0] 30 (0, 0))).heap[w1.heap.size]? = some (.cells #[.int .i64 e1, .string e2, .bool e3, .slice p1 n1 c1, .slice p2 n2 c2, .slice p3 n3 c3, .int .i64 e7, .int .i64 e1, .string e2, .bool e3, .slice p1 n1 c1, .slice p2 n2 c2, .slice p3 n3 c3, .int .i64 e7] 30 (0, 0)) := keepB (blk0 w1 _) hG2
  obtain ⟨⟨y0, y1, y2, y3, y4, y5, y6⟩, -⟩ := box7 (blk0 (w1.alloc (.cells #[.int .i64 e1, .string e2, .bool e3, .slice p1 n1 c1, .slice p2 n2 c2, .slice p3 n3 c3, .int .i64 e7, .int .i64 e1, .string e2, .bool e3, .slice p1 n1 c1, .slice p2 n2 c2, .slice p3 n3 c3, .int .i64 e7] 30 (0, 0))) (.cells #[.int .i64 10, .string ⟨#[]⟩, .bool false, .slice none 0 0, .slice none 0 0, .slice (some ⟨w1.heap.size, 0, none⟩) 2 2, .int .i64 0] 30 (0, 0)))
  obtain ⟨⟨o0, o1, o2, o3, o4, o5, o6⟩, f0, f1, f2, f3, f4, f5, f6⟩ := box7 (blk0 (w1.alloc (.cells #[.int .i64 e1, .string e2, .bool e3, .slice p1 n1 c1, .slice p2 n2 c2, .slice p3 n3 c3, .int .i64 e7, .int .i64 e1, .string e2, .bool e3, .slice p1 n1 c1, .slice p2 n2 c2, .slice p3 n3 c3, .int .i64 e7] 30 (0, 0))) (zeroE 30))
  unfold zeroE at o0 o1 o2 o3 o4 o5 o6 f0 f1 f2 f3 f4 f5 f6
  have hs1 : (w1.alloc (.cells #[.int .i64 e1, .string e2, .bool e3, .slice p1 n1 c1, .slice p2 n2 c2, .slice p3 n3 c3, .int .i64 e7, .int .i64 e1, .string e2, .bool e3, .slice p1 n1 c1, .slice p2 n2 c2, .slice p3 n3 c3, .int .i64 e7] 30 (0, 0))).heap.size = w1.heap.size + 1 := by simp
  rw [hs1] at y0 y1 y2 y3 y4 y5 y6 o0 o1 o2 o3 o4 o5 o6 f0 f1 f2 f3 f4 f5 f6
  have z0 := hG2.cell (hG1.cell k0 (by simp)) (by simp); have z1 := hG2.cell (hG1.cell k1 (by simp)) (by simp); have z2 := hG2.cell (hG1.cell k2 (by simp)) (by simp); have z3 := hG2.cell (hG1.cell k3 (by simp)) (by simp); have z4 := hG2.cell (hG1.cell k4 (by simp)) (by simp); have z5 := hG2.cell (hG1.cell k5 (by simp)) (by simp); have z6 := hG2.cell (hG1.cell k6 (by simp)) (by simp)
  go_upto_region 4 with fail
  clear k0 k1 k2 k3 k4 k5 k6
  have k0 := z0; have k1 := z1; have k2 := z2; have k3 := z3; have k4 := z4; have k5 := z5; have k6 := z6
  clear z0 z1 z2 z3 z4 z5 z6
  clear o0 o1 o2 o3 o4 o5 o6 f0 f1 f2 f3 f4 f5 f6
  have HGX := hid (grown_trans hW hG1)
  have hWX := grown_trans (grown_trans hW hG1) hG2
  have HDX1 := hid (HDX.out _ w1.heap.size hWX hb1)
  have HNX1 := hid (HNX.out _ w1.heap.size hWX hb1)
  have HC1 := hid (HTOP.out _ w1.heap.size 1 (.inl rfl) hWX hb1)
  have HC2 := hid (HTOP.out _ w1.heap.size 2 (.inr rfl) hWX hb1)
  replace HDE := hid fun w' (hg : ((w1.alloc (.cells #[.int .i64 e1, .string e2, .bool e3, .slice p1 n1 c1, .slice p2 n2 c2, .slice p3 n3 c3, .int .i64 e7, .int .i64 e1, .string e2, .bool e3, .slice p1 n1 c1, .slice p2 n2 c2, .slice p3 n3 c3, .int .i64 e7] 30 (0, 0))).alloc (.cells #[.int .i64 10, .string ⟨#[]⟩, .bool false, .slice none 0 0, .slice none 0 0, .slice (some ⟨w1.heap.size, 0, none⟩) 2 2, .int .i64 0] 30 (0, 0))).grownBy w' none) => HDE.out w' (grown_trans hWX hg)
  replace HNE := hid fun w' (hg : ((w1.alloc (.cells #[.int .i64 e1, .string e2, .bool e3, .slice p1 n1 c1, .slice p2 n2 c2, .slice p3 n3 c3, .int .i64 e7, .int .i64 e1, .string e2, .bool e3, .slice p1 n1 c1, .slice p2 n2 c2, .slice p3 n3 c3, .int .i64 e7] 30 (0, 0))).alloc (.cells #[.int .i64 10, .string ⟨#[]⟩, .bool false, .slice none 0 0, .slice none 0 0, .slice (some ⟨w1.heap.size, 0, none⟩) 2 2, .int .i64 0] 30 (0, 0))).grownBy w' none) => HNE.out w' (grown_trans hWX hg)
  have HWX := hid hWX
  clear HDX HNX HTOP hG1 hG2 hb1 hW hWX HGX hs1
  generalize ((w1.alloc _).alloc _) = w2 at *
  generalize w1.heap.size = G at *
  have hgr := grown_refl w2 none
  have hq0 : (((d : Int) + 1) != ((d : Int) + 1)) = false := by simp
  go_region_held3 (fun w' => w'.cell? ⟨w.heap.size, 0, none⟩ = some (.int .i64 e1) ∧ w'.cell? ⟨w.heap.size, 1, none⟩ = some (.string e2) ∧ w'.cell? ⟨w.heap.size, 2, none⟩ = some (.bool e3) ∧ w'.cell? ⟨w.heap.size, 3, none⟩ = some (.slice p1 n1 c1) ∧ w'.cell? ⟨w.heap.size, 4, none⟩ = some (.slice p2 n2 c2) ∧ w'.cell? ⟨w.heap.size, 5, none⟩ = some (.slice p3 n3 c3) ∧ w'.cell? ⟨w.heap.size, 6, none⟩ = some (.int .i64 e7) ∧ w'.cell? ⟨G + 1, 0, none⟩ = some (.int .i64 10) ∧ w'.cell? ⟨G + 1, 1, none⟩ = some (.string ⟨#[]⟩) ∧ w'.cell? ⟨G + 1, 2, none⟩ = some (.bool false) ∧ w'.cell? ⟨G + 1, 3, none⟩ = some (.slice none 0 0) ∧ w'.cell? ⟨G + 1, 4, none⟩ = some (.slice none 0 0) ∧ w'.cell? ⟨G + 1, 5, none⟩ = some (.slice (some ⟨G, 0, none⟩) 2 2) ∧ w'.cell? ⟨G + 1, 6, none⟩ = some (.int .i64 0) ∧ w2.grownBy w' none) ((try go_split_ands) <;> (repeat' apply And.intro) <;> (first | (with_reducible assumption) | (with_reducible refine (grown_drew _ none).cell ?_ (by simp); with_reducible assumption) | (with_reducible refine grown_trans ?_ (grown_drew _ none); with_reducible assumption))) (first | (go_at_call 6; (first | with_reducible refine (HDX1.out _ hgr).mono ?_ | with_reducible refine (HDX1.out _ (grown_trans hgr (grown_drew _ none))).mono ?_); rintro e w3 ⟨rfl, hg⟩; (first | replace hgr := grown_trans hgr hg | replace hgr := grown_trans (grown_trans hgr (grown_drew _ none)) hg); replace k0 := hg.cell k0 (by simp); replace k1 := hg.cell k1 (by simp); replace k2 := hg.cell k2 (by simp); replace k3 := hg.cell k3 (by simp); replace k4 := hg.cell k4 (by simp); replace k5 := hg.cell k5 (by simp); replace k6 := hg.cell k6 (by simp); replace y0 := hg.cell y0 (by simp); replace y1 := hg.cell y1 (by simp); replace y2 := hg.cell y2 (by simp); replace y3 := hg.cell y3 (by simp); replace y4 := hg.cell y4 (by simp); replace y5 := hg.cell y5 (by simp); replace y6 := hg.cell y6 (by simp); clear hg) | (go_at_call 6; (first | with_reducible refine (HDE.out _ hgr).mono ?_ | with_reducible refine (HDE.out _ (grown_trans hgr (grown_drew _ none))).mono ?_); rintro e w3 ⟨rfl, hg⟩; (first | replace hgr := grown_trans hgr hg | replace hgr := grown_trans (grown_trans hgr (grown_drew _ none)) hg); replace k0 := hg.cell k0 (by simp); replace k1 := hg.cell k1 (by simp); replace k2 := hg.cell k2 (by simp); replace k3 := hg.cell k3 (by simp); replace k4 := hg.cell k4 (by simp); replace k5 := hg.cell k5 (by simp); replace k6 := hg.cell k6 (by simp); replace y0 := hg.cell y0 (by simp); replace y1 := hg.cell y1 (by simp); replace y2 := hg.cell y2 (by simp); replace y3 := hg.cell y3 (by simp); replace y4 := hg.cell y4 (by simp); replace y5 := hg.cell y5 (by simp); replace y6 := hg.cell y6 (by simp); clear hg) | (go_at_call 8; (first | with_reducible refine (HNX1.out _ hgr).mono ?_ | with_reducible refine (HNX1.out _ (grown_trans hgr (grown_drew _ none))).mono ?_); rintro e w3 ⟨pp1, nn1, cc1, rfl, hN1, hg⟩; obtain rfl := hN1.len; (first | replace hgr := grown_trans hgr hg | replace hgr := grown_trans (grown_trans hgr (grown_drew _ none)) hg); replace k0 := hg.cell k0 (by simp); replace k1 := hg.cell k1 (by simp); replace k2 := hg.cell k2 (by simp); replace k3 := hg.cell k3 (by simp); replace k4 := hg.cell k4 (by simp); replace k5 := hg.cell k5 (by simp); replace k6 := hg.cell k6 (by simp); replace y0 := hg.cell y0 (by simp); replace y1 := hg.cell y1 (by simp); replace y2 := hg.cell y2 (by simp); replace y3 := hg.cell y3 (by simp); replace y4 := hg.cell y4 (by simp); replace y5 := hg.cell y5 (by simp); replace y6 := hg.cell y6 (by simp); clear hg) | (go_at_call 8; (first | with_reducible refine (HNE.out _ hgr).mono ?_ | with_reducible refine (HNE.out _ (grown_trans hgr (grown_drew _ none))).mono ?_); rintro e w3 ⟨pp2, nn2, cc2, rfl, hN2, hg⟩; obtain rfl := hN2.len; replace hN1 := hN1.keep hg; (first | replace hgr := grown_trans hgr hg | replace hgr := grown_trans (grown_trans hgr (grown_drew _ none)) hg); replace k0 := hg.cell k0 (by simp); replace k1 := hg.cell k1 (by simp); replace k2 := hg.cell k2 (by simp); replace k3 := hg.cell k3 (by simp); replace k4 := hg.cell k4 (by simp); replace k5 := hg.cell k5 (by simp); replace k6 := hg.cell k6 (by simp); replace y0 := hg.cell y0 (by simp); replace y1 := hg.cell y1 (by simp); replace y2 := hg.cell y2 (by simp); replace y3 := hg.cell y3 (by simp); replace y4 := hg.cell y4 (by simp); replace y5 := hg.cell y5 (by simp); replace y6 := hg.cell y6 (by simp); clear hg) | (go_at_call 7; (refine (sameStrings_any pp1 pp2 _ cc1 cc2 _ _ hN1 hN2).mono ?_); rintro e w3 ⟨rfl, hg⟩; (first | replace hgr := grown_trans hgr hg | replace hgr := grown_trans (grown_trans hgr (grown_drew _ none)) hg); replace k0 := hg.cell k0 (by simp); replace k1 := hg.cell k1 (by simp); replace k2 := hg.cell k2 (by simp); replace k3 := hg.cell k3 (by simp); replace k4 := hg.cell k4 (by simp); replace k5 := hg.cell k5 (by simp); replace k6 := hg.cell k6 (by simp); replace y0 := hg.cell y0 (by simp); replace y1 := hg.cell y1 (by simp); replace y2 := hg.cell y2 (by simp); replace y3 := hg.cell y3 (by simp); replace y4 := hg.cell y4 (by simp); replace y5 := hg.cell y5 (by simp); replace y6 := hg.cell y6 (by simp); clear hg))
  go_wp2_with fail
  clear hq0
  have hgr := grown_trans hgr (grown_refl _ none)
  by_cases h20 : d = 20
  · subst h20
    rw [if_pos (by omega)] at HC1
    go_wp2_with (first | (go_at_call 6; (with_reducible refine (HDE.out _ hgr).mono ?_); rintro e w3 ⟨rfl, hg⟩; replace hgr := grown_trans hgr hg; replace k0 := hg.cell k0 (by simp); replace k1 := hg.cell k1 (by simp); replace k2 := hg.cell k2 (by simp); replace k3 := hg.cell k3 (by simp); replace k4 := hg.cell k4 (by simp); replace k5 := hg.cell k5 (by simp); replace k6 := hg.cell k6 (by simp); replace y0 := hg.cell y0 (by simp); replace y1 := hg.cell y1 (by simp); replace y2 := hg.cell y2 (by simp); replace y3 := hg.cell y3 (by simp); replace y4 := hg.cell y4 (by simp); replace y5 := hg.cell y5 (by simp); replace y6 := hg.cell y6 (by simp); clear hg) | (go_at_call 5; (with_reducible refine (HC1.out _ hgr).mono ?_); rintro e w3 ⟨rfl, hg⟩; replace hgr := grown_trans hgr hg; replace k0 := hg.cell k0 (by simp); replace k1 := hg.cell k1 (by simp); replace k2 := hg.cell k2 (by simp); replace k3 := hg.cell k3 (by simp); replace k4 := hg.cell k4 (by simp); replace k5 := hg.cell k5 (by simp); replace k6 := hg.cell k6 (by simp); replace y0 := hg.cell y0 (by simp); replace y1 := hg.cell y1 (by simp); replace y2 := hg.cell y2 (by simp); replace y3 := hg.cell y3 (by simp); replace y4 := hg.cell y4 (by simp); replace y5 := hg.cell y5 (by simp); replace y6 := hg.cell y6 (by simp); clear hg))
    go_ret
    exact ⟨by simp, grown_trans HWX.out hgr⟩
  · rw [if_neg (by omega)] at HC1 HC2
    (first | rw [if_pos rfl] at HC1 | simp only [if_true] at HC1)
    (first | rw [if_neg (by omega)] at HC2 | simp only [if_false] at HC2 | skip)
    have h21 : ((d : Int) == 20) = false := by rw [beq_eq_false_iff_ne]; omega
    go_wp2_with (first | (go_at_call 6; (with_reducible refine (HDE.out _ hgr).mono ?_); rintro e w3 ⟨rfl, hg⟩; replace hgr := grown_trans hgr hg; replace k0 := hg.cell k0 (by simp); replace k1 := hg.cell k1 (by simp); replace k2 := hg.cell k2 (by simp); replace k3 := hg.cell k3 (by simp); replace k4 := hg.cell k4 (by simp); replace k5 := hg.cell k5 (by simp); replace k6 := hg.cell k6 (by simp); replace y0 := hg.cell y0 (by simp); replace y1 := hg.cell y1 (by simp); replace y2 := hg.cell y2 (by simp); replace y3 := hg.cell y3 (by simp); replace y4 := hg.cell y4 (by simp); replace y5 := hg.cell y5 (by simp); replace y6 := hg.cell y6 (by simp); clear hg) | (go_at_call 5; (with_reducible refine (HC1.out _ hgr).mono ?_); rintro e w3 ⟨rfl, hg⟩; replace hgr := grown_trans hgr hg; replace k0 := hg.cell k0 (by simp); replace k1 := hg.cell k1 (by simp); replace k2 := hg.cell k2 (by simp); replace k3 := hg.cell k3 (by simp); replace k4 := hg.cell k4 (by simp); replace k5 := hg.cell k5 (by simp); replace k6 := hg.cell k6 (by simp); replace y0 := hg.cell y0 (by simp); replace y1 := hg.cell y1 (by simp); replace y2 := hg.cell y2 (by simp); replace y3 := hg.cell y3 (by simp); replace y4 := hg.cell y4 (by simp); replace y5 := hg.cell y5 (by simp); replace y6 := hg.cell y6 (by simp); clear hg) | (go_at_call 5; (with_reducible refine (HC2.out _ hgr).mono ?_); rintro e w3 ⟨rfl, hg⟩; replace hgr := grown_trans hgr hg; replace k0 := hg.cell k0 (by simp); replace k1 := hg.cell k1 (by simp); replace k2 := hg.cell k2 (by simp); replace k3 := hg.cell k3 (by simp); replace k4 := hg.cell k4 (by simp); replace k5 := hg.cell k5 (by simp); replace k6 := hg.cell k6 (by simp); replace y0 := hg.cell y0 (by simp); replace y1 := hg.cell y1 (by simp); replace y2 := hg.cell y2 (by simp); replace y3 := hg.cell y3 (by simp); replace y4 := hg.cell y4 (by simp); replace y5 := hg.cell y5 (by simp); replace y6 := hg.cell y6 (by simp); clear hg))
    go_ret
    exact ⟨by simp, grown_trans HWX.out hgr⟩
end Go.Proofs.YtbioamglnndofaaDoor
