/-
  Contract of the reference Gcd.
-/
import Derived.Test.YtnfmjlomiihcnaaDoorRefDiv
import Derived.Deep.LoopGhost
set_option linter.unusedVariables false
set_option linter.unusedSimpArgs false
namespace Go.Proofs.YtnfmjlomiihcnaaDoor
open Go.RowKit Nm

theorem IsC.zero_len {w : World} {p : Option Addr} {n c N : Nat} (h : IsC w p n c N) : (n = 0 ∧ N = 0) ∨ (0 < n ∧ 0 < N) := by
  have hl := h.len
  rcases Nat.eq_zero_or_pos N with h0 | h0
  · subst h0
    rw [dg_zero] at hl
    exact .inl ⟨by simpa using hl.symm, rfl⟩
  · refine .inr ⟨?_, h0⟩
    rcases Nat.eq_zero_or_pos n with h1 | h1
    · have e := V_dg (B := 65536) (by omega) N
      rw [List.eq_nil_of_length_eq_zero (hl.trans h1)] at e
      simp at e; omega
    · exact h1

/-- a call returns the valid Nat of G, of at most k limbs -/
def RPost (w : World) (k G : Nat) (e : Ending) (w' : World) : Prop := ∃ p n c, e = .returned (.slice p n c) ∧ IsC w' p n c G ∧ n ≤ k ∧ w.grownBy w' none

set_option maxHeartbeats 2000000 in
theorem refGcd_n {w : World} {p q : Option Addr} {n c m d N M : Nat} (hA : IsN w p n c N) (hB : IsN w q m d M) (hn : n ≤ 300000) (hm : m ≤ 300000) :
    Calls Tryd.prog 16 #[.slice p n c, .slice q m d] w (RPost w (max n m) (Nat.gcd N M)) := by
  obtain ⟨k, hk⟩ : ∃ k, k = max n m := ⟨_, rfl⟩
  obtain ⟨G, hG⟩ : ∃ G, G = Nat.gcd N M := ⟨_, rfl⟩
  rw [← hk, ← hG]
  have hk1 : n ≤ k := by omega
  have hk2 : m ≤ k := by omega
  have hk3 : k ≤ 300000 := by omega
  have HG := hid hG
  clear hk hG
  go_enter Tryd.func16, Tryd.ntmps16
  go_wp2_with fail
  refine (refNorm_n hA (by omega)).mono ?_
  rintro e w1 ⟨p1, n1, c1, rfl, hA1, hn1, hg1⟩
  go_wp2_with fail
  refine (refNorm_n (hB.keep hg1) (by omega)).mono ?_
  rintro e w2 ⟨p2, n2, c2, rfl, hB2, hn2, hg2⟩
  have hA2 := hA1.keep hg2
  have hW := grown_trans hg1 hg2
  clear hA hB hA1 hg1 hg2
  go_wp2_with fail
  go_loopg [0, 1] M (fun j x y wr => ∃ (p q : Option Addr) (n c m d A : Nat), x = .slice p n c ∧ y = .slice q m d ∧ IsC wr p n c A ∧ IsC wr q m d j ∧ n ≤ k ∧ m ≤ k ∧ w.grownBy wr none ∧ Hid (Nat.gcd A j = G))
  case atStart => exact ⟨_, _, _, _, _, _, N, rfl, rfl, hA2, hB2, by omega, by omega, hW, hid HG.out.symm⟩
  case round =>
    clear hA2 hB2 hW HG
    obtain ⟨p, q, n, c, m, d, A, rfl, rfl, hA, hB, hn, hm, hW, HG⟩ := hrel
    rcases hB.zero_len with ⟨rfl, rfl⟩ | ⟨h1, h2⟩
    · have hF : IsC wr p n c G := by have := HG.out; rw [Nat.gcd_zero_right] at this; exact this ▸ hA
      go_wp2
      go_ret
      exact ⟨p, n, c, rfl, hF, hn, hW⟩
    · have hlt := Nat.mod_lt A h2
      have hi : (0 : Int) < (m : Int) := by omega
      go_wp2_with fail
      refine (refDivMod_n hA.isN hB.isN (by omega) (by omega) h2).mono ?_
      rintro e w3 ⟨p3, n3, c3, p4, n4, c4, rfl, hQ, hR, hn3, hn4, hg3⟩
      have hB3 := hB.keep hg3
      have hW3 := grown_trans hW hg3
      clear hA hB hQ hW hg3
      have HR := hid (And.intro hR hB3)
      clear hR hB3
      go_wp2_with fail
      go_roundg (A % gk)
      case measure => exact hlt
      case rel => exact ⟨_, _, _, _, _, _, gk, rfl, rfl, HR.out.2, HR.out.1, hm, by omega, hW3, hid (by rw [Nat.gcd_comm, ← Nat.gcd_rec, Nat.gcd_comm]; exact HG.out)⟩
end Go.Proofs.YtnfmjlomiihcnaaDoor
