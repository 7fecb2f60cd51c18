/-
  Contract of sameStrings at equal lists.
-/
import Derived.Test.YtlkajmfpbgipbaaAstN
set_option linter.unusedVariables false
set_option linter.unusedSimpArgs false
namespace Go.Proofs.Ytlkajmfpbgipbaa
open Go.RowKit _root_.Nm
set_option maxHeartbeats 4000000 in
set_option maxRecDepth 100000 in
theorem sameStrings_any (p q : Option Addr) (n c d : Nat) (L : List ByteArray) (w : World) (h1 : NRd w p n c L) (h2 : NRd w q n d L) :
    Calls Try.prog 31 #[.slice p n c, .slice q n d] w fun e w' => e = .returned (.bool true) ∧ w.grownBy w' none := by
  have hl := h1.len
  have hc := SRd.cap h1
  have hm := SRd.max h1
  have hc2 := SRd.cap h2
  have hm2 := SRd.max h2
  have H1 := hid h1
  have H2 := hid h2
  clear h1 h2
  go_enter Try.func31, Try.ntmps31
  go_wp2_with fail
  go_loopw [13] (fun x wr => ∃ k : Nat, k ≤ n ∧ x = .int .i64 k ∧ w.grownBy wr none) (fun x _ => n - (intOf x).toNat)
  case atStart => exact ⟨0, Nat.zero_le _, rfl, grown_refl _ _⟩
  case round =>
    obtain ⟨k, hk, rfl, hg⟩ := hrel
    by_cases hlt : k < n
    · obtain ⟨b1, o1, rfl, e1⟩ := (H1.out.keep hg).at1 (i := k) (by omega)
      obtain ⟨b2, o2, rfl, e2⟩ := (H2.out.keep hg).at1 (i := k) (by omega)
      go_wp2_with fail
      go_quiet (fail)
      go_wp2_with fail
      exact ⟨⟨k + 1, by omega, by go_num, gdN hg _⟩, by simp [intOf]; omega⟩
    · obtain rfl : k = n := by omega
      go_wp2_with fail
      go_ret
      exact ⟨rfl, hg⟩
end Go.Proofs.Ytlkajmfpbgipbaa
