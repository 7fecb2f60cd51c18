/-
  Contract of walk with the visit of Names.
-/
import Derived.Test.YtlkajmfpbgipbaaAstX
set_option linter.unusedVariables false
set_option linter.unusedSimpArgs false
namespace Go.Proofs.Ytlkajmfpbgipbaa
open Go.RowKit Go.Maps _root_.Nm
noncomputable def accW (m : Nat) (h : Hd) (l : List Tr) (L : List ByteArray) (k : Nat) : List ByteArray := ((if h.k = 1 then [h.nm] else []) ++ ((l.take k).map (preF m)).flatten).foldl add1 L
theorem accW_zero (m : Nat) (h : Hd) (l : List Tr) (L : List ByteArray) : accW m h l L 0 = visL h.k h.nm L := by
  unfold accW visL
  by_cases e : h.k = 1
  · rw [if_pos e, if_pos e]; simp
  · rw [if_neg e, if_neg e]; simp
theorem accW_succ (m : Nat) (h : Hd) (l : List Tr) (L : List ByteArray) {k : Nat} (hk : k < l.length) : accW m h l L (k + 1) = (preF m l[k]).foldl add1 (accW m h l L k) := by
  unfold accW
  rw [List.take_add_one, List.getElem?_eq_getElem hk, List.map_append, List.flatten_append, ← List.append_assoc, List.foldl_append]
  simp
theorem accW_last (m : Nat) (h : Hd) (l : List Tr) (L : List ByteArray) {k : Nat} (hk : l.length ≤ k) : accW m h l L k = (preF (m + 1) (.node h l)).foldl add1 L := by
  unfold accW
  rw [List.take_of_length_le hk]
  rfl
theorem accW_len (m : Nat) (h : Hd) (l : List Tr) (L : List ByteArray) {k : Nat} (hk : k < l.length) : (accW m h l L k).length + (preF m l[k]).length ≤ L.length + (preF (m + 1) (.node h l)).length := by
  have h1 := adds_len ((if h.k = 1 then [h.nm] else []) ++ ((l.take k).map (preF m)).flatten) L
  have h2 : (preF (m + 1) (.node h l)).length = (if h.k = 1 then [h.nm] else []).length + (l.map (preF m)).flatten.length := by
    show ((if h.k = 1 then [h.nm] else []) ++ (l.map (preF m)).flatten).length = _
    rw [List.length_append]
  have h3 : ((l.take k).map (preF m)).flatten.length + (preF m l[k]).length ≤ (l.map (preF m)).flatten.length := by
    have e : (l.map (preF m)).flatten = ((l.take (k + 1)).map (preF m)).flatten ++ ((l.drop (k + 1)).map (preF m)).flatten := by
      rw [← List.flatten_append, ← List.map_append, List.take_append_drop]
    rw [e, List.take_add_one, List.getElem?_eq_getElem hk, List.map_append, List.flatten_append]
    simp
  rw [List.length_append] at h1
  unfold accW
  omega
theorem preF_own (m : Nat) (h : Hd) (l : List Tr) : (preF (m + 1) (.node h l)).length = (if h.k = 1 then [h.nm] else []).length + (l.map (preF m)).flatten.length := by
  show ((if h.k = 1 then [h.nm] else []) ++ (l.map (preF m)).flatten).length = _
  rw [List.length_append]

set_option maxHeartbeats 8000000 in
set_option maxRecDepth 100000 in
theorem walk_any (w0 : World) (Bm Bs bm B0 : Nat) (hB : w0.heap.size ≤ Bm ∧ w0.heap.size ≤ Bs ∧ w0.heap.size ≤ bm) : ∀ (m : Nat) (cs : List Value) (t : Tr) (L : List ByteArray) (w : World), ERd w0 m cs t → L.length + (preF m t).length ≤ 1048576 → w0.grownBy w none → B0 ≤ w.heap.size → Vis w Bm Bs bm B0 L →
    Calls Try.prog 56 #[.agg cs.toArray, .func (.func 57) #[] #[.pointer (some ⟨Bm, 0, none⟩), .pointer (some ⟨Bs, 0, none⟩)]] w fun e w' => e = .returned (.tuple #[]) ∧ VisP w0 w w' Bm Bs bm B0 ((preF m t).foldl add1 L)
  | 0, _, _, _, _, h, _, _, _, _ => h.elim
  | m + 1, cs, .node h l, L, w, hE, hlen, h0, hsz, hV => by
    have IH := hid (walk_any w0 Bm Bs bm B0 hB m)
    obtain ⟨pn, nn, cn, pd, nd, cd, pa, na, ca, rfl, hn, hd, ⟨hla, hac, hca, hnm⟩, hargs⟩ := hE
    have HX := hid hargs
    have HLEN := hid hlen
    have HBB := hid hB
    have HLL : Hid (L.length ≤ 1048576) := hid (by omega)
    clear hargs hn hd hlen hB
    have HA := hid (World.grownBy_alloc w (.cells #[.int .i64 h.k, .string h.nm, .bool h.g, .slice pn nn cn, .slice pd nd cd, .slice pa na ca, .int .i64 h.pos] 50 (0, 0)) none)
    have HB0 := hid (blk0 w (.cells #[.int .i64 h.k, .string h.nm, .bool h.g, .slice pn nn cn, .slice pd nd cd, .slice pa na ca, .int .i64 h.pos] 50 (0, 0)))
    have HV1 := hid (hV.keep HA.out)
    have HG1 := hid (grown_trans h0 HA.out)
    have HS1 : Hid (B0 ≤ (w.alloc (.cells #[.int .i64 h.k, .string h.nm, .bool h.g, .slice pn nn cn, .slice pd nd cd, .slice pa na ca, .int .i64 h.pos] 50 (0, 0))).heap.size) := hid (Nat.le_trans hsz HA.out.size)
    clear h0 hV
    go_enter Try.func56, Try.ntmps56
    go_wp2_with (go_at_call 57; refine (visit_any Bm Bs bm B0 h.k h.nm h.g pn nn cn pd nd cd pa na ca h.pos L w0 _ hnm HLL.out HG1.out HBB.out HS1.out HV1.out).mono ?_; rintro e w1 ⟨rfl, hP⟩; have hbx := hP.box _ _ HB0.out; obtain ⟨⟨k0, k1, k2, k3, k4, k5, k6⟩, f0, f1, f2, f3, f4, f5, f6⟩ := box7 hbx)
    have HP0 : Hid (VisP w0 w w1 Bm Bs bm B0 (accW m h l L 0)) := hid (by
      rw [accW_zero]
      exact ⟨hP.vis, hP.gr, BoxK.trans (BoxK.grown HA.out) hP.box, Nat.le_trans HA.out.size hP.sz⟩)
    clear hP hbx k0 k1 k2 k3 k4 k5 k6 f0 f1 f2 f3 f4 f5 f6 HV1 HG1 HS1 HB0
    go_loopw [12] (fun x wr => ∃ k : Nat, k ≤ na ∧ x = .int .i64 k ∧ VisP w0 w wr Bm Bs bm B0 (accW m h l L k)) (fun x _ => na - (intOf x).toNat)
    case atStart => exact ⟨0, Nat.zero_le _, rfl, HP0.out⟩
    case round =>
      clear HP0
      obtain ⟨k, hk, rfl, hP⟩ := hrel
      by_cases hlt : k < na
      · have hg := hP.gr
        obtain ⟨b, o, cs', rfl, h7, hc, hE⟩ := HX.out k (by omega)
        obtain ⟨e1, e2, e3, pn', nn', cn', pd', nd', cd', pa', na', ca', e7, rfl⟩ := hE.shape
        have c0 := hg.cell (hc 0 (by simp)) (by simp)
        have c1 := hg.cell (hc 1 (by simp)) (by simp)
        have c2 := hg.cell (hc 2 (by simp)) (by simp)
        have c3 := hg.cell (hc 3 (by simp)) (by simp)
        have c4 := hg.cell (hc 4 (by simp)) (by simp)
        have c5 := hg.cell (hc 5 (by simp)) (by simp)
        have c6 := hg.cell (hc 6 (by simp)) (by simp)
        simp only [List.getElem_cons_zero, List.getElem_cons_succ, Nat.add_zero] at c0 c1 c2 c3 c4 c5 c6
        have HAL := hid (World.grownBy_alloc wr (.cells #[.int .i64 e1, .string e2, .bool e3, .slice pn' nn' cn', .slice pd' nd' cd', .slice pa' na' ca', .int .i64 e7] 50 (0, 0)) none)
        have HC := hid (IH.out _ _ (accW m h l L k) (wr.alloc (.cells #[.int .i64 e1, .string e2, .bool e3, .slice pn' nn' cn', .slice pd' nd' cd', .slice pa' na' ca', .int .i64 e7] 50 (0, 0))) hE (Nat.le_trans (accW_len m h l L (by omega)) HLEN.out) (grown_trans hg HAL.out) (Nat.le_trans hsz (Nat.le_trans hP.sz HAL.out.size)) (hP.vis.keep HAL.out))
        rw [← accW_succ m h l L (by omega)] at HC
        have HPP := hid hP
        clear hc hE h7 hP hg
        obtain ⟨⟨k0, k1, k2, k3, k4, k5, k6⟩, f0, f1, f2, f3, f4, f5, f6⟩ := box7 (blk0 wr (zeroE 50))
        unfold zeroE at k0 k1 k2 k3 k4 k5 k6 f0 f1 f2 f3 f4 f5 f6
        go_wp2_with (go_at_call 56; refine HC.out.mono ?_; rintro e w2 ⟨rfl, hP2⟩)
        exact ⟨⟨k + 1, by omega, by go_num, ⟨hP2.vis, hP2.gr, BoxK.trans HPP.out.box (BoxK.trans (BoxK.grown HAL.out) hP2.box), Nat.le_trans HPP.out.sz (Nat.le_trans HAL.out.size hP2.sz)⟩⟩, by simp [intOf]; omega⟩
      · obtain rfl : k = na := by omega
        rw [accW_last m h l L (by omega)] at hP
        go_wp2_with fail
        go_end0
        exact ⟨rfl, hP⟩
end Go.Proofs.Ytlkajmfpbgipbaa
