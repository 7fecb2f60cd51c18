/-
  Plain arithmetic of the division by hand: one round. No program is mentioned here.
-/
import Derived.Test.YtdmlcddieadelaaDivA
set_option linter.unusedVariables false
namespace Nm
theorem KInv.right {W n Lq v U i m d bor : Nat} {cu cq cu1 : List Nat} (hW : 1 < W) (h : KInv W n Lq v U (i + 1) cu cq) (hv : v ≤ W ^ m) (him : i + m ≤ n) (hm : 0 < m) (hiq : i < Lq) (hl : cu1.length = cu.length) (hd : Dg W cu1)
    (e : V W cu1 + W ^ i * (d * v) = V W cu + W ^ (i + m) * bor) (hs : ∀ j, j < i ∨ i + m ≤ j → cu1[j]? = cu[j]?) (him2 : i + m < cu.length)
    (hle : bor ≤ cu[i + m]) (hdW : d < W) (hlt : V W (cu.drop i) < (d + 1) * v) : KInv W n Lq v U i (cu1.set (i + m) 0) (cq.set i d) := by
  have h1 := knuth_sub hW h hv him hl hd e hs him2
  have h2 := clear_top hW h hv him hl hs
  have h3 := digit_right h1.1 hle hlt hv
  refine KInv.next (by omega) h (by omega) hiq (by simpa using hl) (hd.set _ _ (by omega)) h2.2 hdW ?_ ?_
  · rw [h2.1]; exact h3.1
  · rw [h2.1]; exact h3.2

theorem KInv.less {W n Lq v U i m d bor c : Nat} {cu cq cu1 cu2 : List Nat} (hW : 1 < W) (h : KInv W n Lq v U (i + 1) cu cq) (hv : v ≤ W ^ m) (him : i + m ≤ n) (hm : 0 < m) (hiq : i < Lq) (hl : cu1.length = cu.length) (hd : Dg W cu1)
    (e : V W cu1 + W ^ i * (d * v) = V W cu + W ^ (i + m) * bor) (hs : ∀ j, j < i ∨ i + m ≤ j → cu1[j]? = cu[j]?) (him2 : i + m < cu.length)
    (hlt : cu[i + m] < bor) (hdW : d < W) (hdv : d * v < V W (cu.drop i) + v) (hl2 : cu2.length = cu1.length) (hd2 : Dg W cu2) (e2 : V W cu2 + W ^ (i + m) * c = V W cu1 + W ^ i * v)
    (hs2 : ∀ j, j < i ∨ i + m ≤ j → cu2[j]? = cu1[j]?) : 1 ≤ d ∧ KInv W n Lq v U i (cu2.set (i + m) 0) (cq.set i (d - 1)) := by
  have hlu := h.lu
  have h1 := knuth_sub hW h hv him hl hd e hs him2
  have hs' : ∀ j, j < i ∨ i + m ≤ j → cu2[j]? = cu[j]? := fun j hj => (hs2 j hj).trans (hs j hj)
  have h2 := clear_top hW h hv him (hl2.trans hl) hs'
  obtain ⟨t1, t2⟩ := same_parts hs2
  have h4 := drop_level (W := W) (by omega) (by omega) hl2.symm t1.symm e2.symm
  have f1 := V_take_drop (B := W) (cu1.drop i) m (by simp; omega)
  have f2 := V_take_drop (B := W) (cu2.drop i) m (by simp; omega)
  rw [List.drop_drop] at f1 f2
  rw [t2] at f2
  have h5 : V W ((cu2.drop i).take m) + W ^ m * c = V W ((cu1.drop i).take m) + v := by omega
  have h6 : V W ((cu2.drop i).take m) < W ^ m := by
    have h7 := ((hd2.drop i).take m).lt
    have h8 : W ^ ((cu2.drop i).take m).length ≤ W ^ m := Nat.pow_le_pow_right (by omega) (List.length_take_le _ _)
    omega
  have h3 := digit_less h1.1 hlt h1.2 hdv h5 h6 hv
  refine ⟨h3.1, KInv.next (by omega) h (by omega) hiq (by simpa using hl2.trans hl) (hd2.set _ _ (by omega)) h2.2 (by omega) ?_ ?_⟩
  · rw [h2.1]; exact h3.2.1
  · rw [h2.1]; exact h3.2.2

/-- the digit that the three highest words give -/
theorem KInv.digit {W n Lq v U i m first second d : Nat} {cu cq zs : List Nat} (hW : 1 < W) (h : KInv W n Lq v U (i + 1) cu cq) (hv : v < W ^ (m + 2)) (hz : Dg W zs) (lz : zs.length = m + 2 + 1) (hvz : V W zs = v) (hvt : V W (zs.take (m + 2)) = v)
    (h1 : first = zs[m + 1]) (h0 : second = zs[m]) (hf : W ≤ 2 * first) (hi : i + (m + 2) < cu.length)
    (hd : d = if first ≤ cu[i + (m + 2)] then W - 1 else (cu[i + (m + 2)] * W * W + cu[i + (m + 1)] * W + cu[i + m]) / (first * W + second)) :
    d < W ∧ V W (cu.drop i) < (d + 1) * v ∧ d * v < V W (cu.drop i) + v := by
  have hlu := h.lu
  obtain ⟨Rlow, r1, r2, r3⟩ := three_words hW cu h.du i m (by omega) v (Nat.le_of_lt hv) h.lt (by omega)
  obtain ⟨Vlow, v1, v2⟩ := two_top hW (zs.take (m + 2)) (hz.take _) m (by simp; omega)
  rw [hvt] at v2
  have g1 : (zs.take (m + 2))[m + 1]'(by simp; omega) = first := by rw [h1]; simp
  have g0 : (zs.take (m + 2))[m]'(by simp; omega) = second := by rw [h0]; simp
  rw [g1, g0] at v2
  exact digit_est hf (by omega) v2 v1 r2 r1 (by rw [h0]; exact hz.get _ _) (h.du.get _ _) (h.du.get _ _) r3 hd
end Nm
