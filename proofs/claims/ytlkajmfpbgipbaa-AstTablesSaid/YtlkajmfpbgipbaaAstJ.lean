/-
  Contract of sameInts at equal lists.
-/
import Derived.Test.YtlkajmfpbgipbaaAstA
import Derived.Test.YtlkajmfpbgipbaaAstM
set_option linter.unusedVariables false
set_option linter.unusedSimpArgs false
namespace Go.Proofs.Ytlkajmfpbgipbaa
open Go.RowKit _root_.Nm Ax
set_option maxHeartbeats 4000000 in
set_option maxRecDepth 100000 in
theorem sameInts_any (p q : Option Addr) (n c d : Nat) (L : List Nat) (w : World) (h1 : IRd w .i64 p n c L) (h2 : IRd w .i64 q n d L) :
    Calls Try.prog 23 #[.slice p n c, .slice q n d] w fun e w' => e = .returned (.bool true) ∧ w.grownBy w' none := by
  have hl := h1.len
  have hc := h1.cap
  have hm := h1.max
  have hc2 := h2.cap
  have hm2 := h2.max
  have H1 := hid h1
  have H2 := hid h2
  clear h1 h2
  go_enter Try.func23, Try.ntmps23
  go_wp2_with fail
  go_loopw [13] (fun x wr => ∃ k : Nat, k ≤ n ∧ x = .int .i64 k ∧ w.grownBy wr none) (fun x _ => n - (intOf x).toNat)
  case atStart => exact ⟨0, Nat.zero_le _, rfl, grown_refl _ _⟩
  case round =>
    obtain ⟨k, hk, rfl, hg⟩ := hrel
    by_cases hlt : k < n
    · obtain ⟨b1, o1, rfl, e1⟩ := (H1.out.keep hg).cel k (by omega)
      obtain ⟨b2, o2, rfl, e2⟩ := (H2.out.keep hg).cel k (by omega)
      go_wp2_with fail
      go_quiet (fail)
      go_wp2_with fail
      exact ⟨⟨k + 1, by omega, by go_num, gdN hg _⟩, by simp [intOf]; omega⟩
    · obtain rfl : k = n := by omega
      go_wp2_with fail
      go_ret
      exact ⟨rfl, hg⟩
end Go.Proofs.Ytlkajmfpbgipbaa
