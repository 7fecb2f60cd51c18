/-
  The contracts of package natural once more, over values: which number a slice stands for.
-/
import Derived.Test.YtknmdmofmcfjhaaGreatDoorMul
import Derived.Test.YtknmdmofmcfjhaaGreatDoorForms
import Derived.Test.YtknmdmofmcfjhaaGreatDoorDivS
set_option linter.unusedVariables false
set_option linter.unusedSimpArgs false
namespace Go.Proofs.YtknmdmofmcfjhaaGreatDoor
open Go.RowKit Nm

/-- .slice p n c stands for the number N, perhaps with leading zeros -/
def IsN (w : World) (p : Option Addr) (n c N : Nat) : Prop := ∃ L, IRd w .u16 p n c L ∧ Dg 65536 L ∧ V 65536 L = N
/-- .slice p n c is the valid Nat of N -/
def IsC (w : World) (p : Option Addr) (n c N : Nat) : Prop := IRd w .u16 p n c (dg 65536 N)

section
variable {w w' : World} {p q : Option Addr} {n c m d N M : Nat}
theorem IsC.isN (h : IsC w p n c N) : IsN w p n c N := ⟨_, h, (Can_dg (by omega) N).1, V_dg (by omega) N⟩
theorem IsC.len (h : IsC w p n c N) : (dg 65536 N).length = n := IRd.len h
theorem IsN.keep (h : IsN w p n c N) (hg : w.grownBy w' none) : IsN w' p n c N := let ⟨L, h1, h2⟩ := h; ⟨L, h1.keep hg, h2⟩
theorem IsC.keep (h : IsC w p n c N) (hg : w.grownBy w' none) : IsC w' p n c N := IRd.keep h hg
theorem IsN.of {xs : List Nat} (h : IRd w .u16 p n c xs) (hx : Dg 65536 xs) : IsN w p n c (V 65536 xs) := ⟨xs, h, hx, rfl⟩
theorem IsC.congr (h : IsC w p n c N) (e : N = M) : IsC w p n c M := e ▸ h
theorem IsN.lt (h : IsN w p n c N) : N < 65536 ^ n := by
  obtain ⟨L, h1, h2, rfl⟩ := h
  have := h2.lt
  rwa [h1.len] at this
theorem IsC.nil (w : World) : IsC w none 0 0 0 := IRd.nil w _

theorem natAdd_n (hA : IsN w p n c N) (hB : IsN w q m d M) (hn : n ≤ 900000) (hm : m ≤ 900000) :
    Calls Tryz.prog 199 #[.slice p n c, .slice q m d] w fun e w' => ∃ p' n' c', e = .returned (.slice p' n' c') ∧ IsC w' p' n' c' (N + M) ∧ n' ≤ n + m + 1 ∧ w.grownBy w' none := by
  obtain ⟨L, h1, h2, rfl⟩ := hA
  obtain ⟨K, k1, k2, rfl⟩ := hB
  refine (natAdd_any p q n m c d L K w h1 k1 h2 k2 hn hm).mono fun e w' ⟨p', c', h, hr, hg⟩ => ⟨p', _, c', h, hr, ?_, hg⟩
  refine dg_length_le (by omega) ?_
  have e1 := h2.lt
  have e2 := k2.lt
  rw [h1.len] at e1
  rw [k1.len] at e2
  have e3 : 65536 ^ n ≤ 65536 ^ (n + m) := Nat.pow_le_pow_right (by omega) (by omega)
  have e4 : 65536 ^ m ≤ 65536 ^ (n + m) := Nat.pow_le_pow_right (by omega) (by omega)
  rw [Nat.pow_succ]; omega

theorem natSub_n (hA : IsN w p n c N) (hB : IsN w q m d M) (hn : n ≤ 900000) (hm : m ≤ 900000) (hle : M ≤ N) :
    Calls Tryz.prog 201 #[.slice p n c, .slice q m d] w fun e w' => ∃ p' n' c', e = .returned (.tuple #[.slice p' n' c', .int .i64 0]) ∧ IsC w' p' n' c' (N - M) ∧ n' ≤ n ∧ w.grownBy w' none := by
  obtain ⟨L, h1, h2, rfl⟩ := hA
  obtain ⟨K, k1, k2, rfl⟩ := hB
  refine (natSub_ok p q n m c d L K w h1 k1 h2 k2 hn hm hle).mono fun e w' ⟨p', c', h, hr, hg⟩ => ⟨p', _, c', h, hr, ?_, hg⟩
  refine dg_length_le (by omega) ?_
  have e1 := h2.lt
  rw [h1.len] at e1
  omega

theorem natSub_e (hA : IsN w p n c N) (hB : IsN w q m d M) (hlt : N < M) :
    Calls Tryz.prog 201 #[.slice p n c, .slice q m d] w fun e w' => e = .returned (.tuple #[.slice none 0 0, .int .i64 2]) ∧ w.grownBy w' none := by
  obtain ⟨L, h1, h2, rfl⟩ := hA
  obtain ⟨K, k1, k2, rfl⟩ := hB
  exact natSub_err p q n m c d L K w h1 k1 h2 k2 hlt

theorem natMul_n (hA : IsN w p n c N) (hB : IsN w q m d M) (hn : n ≤ 400000) (hm : m ≤ 400000) :
    Calls Tryz.prog 158 #[.slice p n c, .slice q m d] w fun e w' => ∃ p' n' c', e = .returned (.slice p' n' c') ∧ IsC w' p' n' c' (N * M) ∧ n' ≤ n + m ∧ w.grownBy w' none := by
  obtain ⟨L, h1, h2, rfl⟩ := hA
  obtain ⟨K, k1, k2, rfl⟩ := hB
  refine (natMul_any p q n m c d L K w h1 k1 h2 k2 hn hm).mono fun e w' ⟨p', c', h, hr, hg⟩ => ⟨p', _, c', h, hr, ?_, hg⟩
  refine dg_length_le (by omega) ?_
  have e1 := h2.lt
  have e2 := k2.lt
  rw [h1.len] at e1
  rw [k1.len] at e2
  rw [Nat.pow_add]
  exact Nat.mul_lt_mul'' e1 e2

theorem natNorm_n (hA : IsN w p n c N) (hn : n ≤ 900000) :
    Calls Tryz.prog 155 #[.slice p n c] w fun e w' => ∃ p' n' c', e = .returned (.slice p' n' c') ∧ IsC w' p' n' c' N ∧ n' ≤ n ∧ w.grownBy w' none := by
  obtain ⟨L, h1, h2, rfl⟩ := hA
  refine (natNorm_any p n c L w h1 (by omega)).mono fun e w' ⟨p', c', h, hr, hg⟩ => ⟨p', _, c', h, ?_, ?_, hg⟩
  · unfold IsC; rw [← trimR_dg (by omega) h2]; exact hr
  · rw [← h1.len]; exact trimR_length_le L

theorem natCmp_n (hA : IsN w p n c N) (hB : IsN w q m d M) :
    Calls Tryz.prog 168 #[.slice p n c, .slice q m d] w fun e w' => e = .returned (.int .i64 (cmpI (N : Nat) (M : Nat))) ∧ w.grownBy w' none := by
  obtain ⟨L, h1, h2, rfl⟩ := hA
  obtain ⟨K, k1, k2, rfl⟩ := hB
  exact natCmp_any p q n m c d L K w h1 k1 h2 k2

theorem natBits_n (hA : IsN w p n c N) (hn : n ≤ 900000) :
    Calls Tryz.prog 152 #[.slice p n c] w fun e w' => ∃ b : Nat, b ≤ 16 * n ∧ e = .returned (.int .i64 b) ∧ Hid (IsBits N b) ∧ w = w' := by
  obtain ⟨L, h1, h2, rfl⟩ := hA
  exact natBits_any p n c L w h1 h2 (by omega)

/-- Same of two valid Nats of one number -/
theorem same_c (hA : IsC w p n c N) (hB : IsC w q m d M) (e : N = M) :
    Calls Tryz.prog 74 #[.slice p n c, .slice q m d] w fun e w' => e = .returned (.bool true) ∧ w.grownBy w' none := by
  subst e
  obtain rfl : n = m := by rw [← hA.len, ← hB.len]
  exact same_any p q n c d _ w hA hB
end
end Go.Proofs.YtknmdmofmcfjhaaGreatDoor
