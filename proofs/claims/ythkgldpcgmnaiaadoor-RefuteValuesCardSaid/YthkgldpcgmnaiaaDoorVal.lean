/-
  The contracts of package natural once more, over values: which number a slice stands for.
-/
import Derived.Test.YthkgldpcgmnaiaaDoorMul
import Derived.Test.YthkgldpcgmnaiaaDoorForms
import Derived.Test.YthkgldpcgmnaiaaDoorDivS
set_option linter.unusedVariables false
set_option linter.unusedSimpArgs false
namespace Go.Proofs.YthkgldpcgmnaiaaDoor
open Go.RowKit Nm

/-- .slice p n c stands for the number N, perhaps with leading zeros -/
def IsN (w : World) (p : Option Addr) (n c N : Nat) : Prop := ∃ L, IRd w .u16 p n c L ∧ Dg 65536 L ∧ V 65536 L = N
/-- .slice p n c is the valid Nat of N -/
def IsC (w : World) (p : Option Addr) (n c N : Nat) : Prop := IRd w .u16 p n c (dg 65536 N)

section
variable {w w' : World} {p q : Option Addr} {n c m d N M : Nat}
theorem IsC.isN (h : IsC w p n c N) : IsN w p n c N := ⟨_, h, (Can_dg (by omega) N).1, V_dg (by omega) N⟩
theorem IsC.len (h : IsC w p n c N) : (dg 65536 N).length = n := IRd.len h
theorem IsN.keep (h : IsN w p n c N) (hg : w.grownBy w' none) : IsN w' p n c N := let ⟨L, h1, h2⟩ := h; ⟨L, h1.keep hg, h2⟩
theorem IsC.keep (h : IsC w p n c N) (hg : w.grownBy w' none) : IsC w' p n c N := IRd.keep h hg
theorem IsN.of {xs : List Nat} (h : IRd w .u16 p n c xs) (hx : Dg 65536 xs) : IsN w p n c (V 65536 xs) := ⟨xs, h, hx, rfl⟩
theorem IsC.congr (h : IsC w p n c N) (e : N = M) : IsC w p n c M := e ▸ h
theorem IsN.lt (h : IsN w p n c N) : N < 65536 ^ n := by
  obtain ⟨L, h1, h2, rfl⟩ := h
  have := h2.lt
  rwa [h1.len] at this
theorem IsC.nil (w : World) : IsC w none 0 0 0 := IRd.nil w _





theorem natNorm_n (hA : IsN w p n c N) (hn : n ≤ 900000) :
    Calls Tryd.prog 46 #[.slice p n c] w fun e w' => ∃ p' n' c', e = .returned (.slice p' n' c') ∧ IsC w' p' n' c' N ∧ n' ≤ n ∧ w.grownBy w' none := by
  obtain ⟨L, h1, h2, rfl⟩ := hA
  refine (natNorm_any p n c L w h1 (by omega)).mono fun e w' ⟨p', c', h, hr, hg⟩ => ⟨p', _, c', h, ?_, ?_, hg⟩
  · unfold IsC; rw [← trimR_dg (by omega) h2]; exact hr
  · rw [← h1.len]; exact trimR_length_le L

theorem natCmp_n (hA : IsN w p n c N) (hB : IsN w q m d M) :
    Calls Tryd.prog 62 #[.slice p n c, .slice q m d] w fun e w' => e = .returned (.int .i64 (cmpI (N : Nat) (M : Nat))) ∧ w.grownBy w' none := by
  obtain ⟨L, h1, h2, rfl⟩ := hA
  obtain ⟨K, k1, k2, rfl⟩ := hB
  exact natCmp_any p q n m c d L K w h1 k1 h2 k2

theorem natBits_n (hA : IsN w p n c N) (hn : n ≤ 900000) :
    Calls Tryd.prog 48 #[.slice p n c] w fun e w' => ∃ b : Nat, b ≤ 16 * n ∧ e = .returned (.int .i64 b) ∧ Hid (IsBits N b) ∧ w = w' := by
  obtain ⟨L, h1, h2, rfl⟩ := hA
  exact natBits_any p n c L w h1 h2 (by omega)

/-- Same of two valid Nats of one number -/
theorem same_c (hA : IsC w p n c N) (hB : IsC w q m d M) (e : N = M) :
    Calls Tryd.prog 13 #[.slice p n c, .slice q m d] w fun e w' => e = .returned (.bool true) ∧ w.grownBy w' none := by
  subst e
  obtain rfl : n = m := by rw [← hA.len, ← hB.len]
  exact same_any p q n c d _ w hA hB
end
end Go.Proofs.YthkgldpcgmnaiaaDoor
