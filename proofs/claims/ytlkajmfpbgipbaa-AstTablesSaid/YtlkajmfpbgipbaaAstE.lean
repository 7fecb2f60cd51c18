/-
  Contract of Kind.
-/
import Derived.Test.YtlkajmfpbgipbaaAstD
set_option linter.unusedVariables false
set_option linter.unusedSimpArgs false
namespace Go.Proofs.Ytlkajmfpbgipbaa
open Go.RowKit _root_.Nm Ax
set_option maxHeartbeats 4000000 in
set_option maxRecDepth 100000 in
theorem kind_any (d : ByteArray) (w : World) : Calls Try.prog 28 #[.string d] w fun e w' => e = .returned (.int .i64 (knd d.toList : Nat)) ∧ w.grownBy w' none := by
  go_enter Try.func28, Try.ntmps28
  go_wp2_with fail
  go_loopw [3] (fun x wr => ∃ k : Nat, 10 ≤ k ∧ k ≤ 69 ∧ x = .int .i64 k ∧ w.grownBy wr none ∧ ∀ i, 10 ≤ i → i < k → (wrd (i : Nat) = [] ∨ wrd (i : Nat) ≠ d.toList)) (fun x _ => 69 - (intOf x).toNat)
  case atStart => exact ⟨10, Nat.le_refl _, by omega, rfl, grown_refl _ _, fun i h1 h2 => by omega⟩
  case round =>
    obtain ⟨k, hk0, hk, rfl, hg, hno⟩ := hrel
    by_cases hlt : k ≤ 68
    · have HNO := hid hno
      clear hno
      go_wp2_with (go_at_call 52; refine (shapeOf_any (k : Nat) _).mono ?_; rintro e w1 ⟨p, n, c, rfl, hf, hr, hg1⟩; obtain ⟨⟨k0, k1, k2⟩, f0, f1, f2⟩ := box3 (blk0 w1 (.cells #[.int .i64 0, .string ⟨#[]⟩, .slice none 0 0] 75)))
      · go_ret
        refine ⟨?_, grown_trans (grown_trans hg hg1) (World.grownBy_alloc _ _ none)⟩
        have hw : wrd (k : Nat) = d.toList := by assumption
        have hn : wrd (k : Nat) ≠ [] := by rw [hw]; intro e; simp_all
        have := knd_first hk0 hlt hn (fun j h1 h2 e => (HNO.out j h1 h2).elim (fun h => hn (e ▸ h)) (fun h => h (e.trans hw)))
        rw [← hw, this]
        rfl
      all_goals
        refine ⟨⟨k + 1, by omega, by omega, by go_num, grown_trans (grown_trans hg hg1) (World.grownBy_alloc _ _ none), ?_⟩, by simp [intOf]; omega⟩
        intro i h1 h2
        by_cases e : i = k
        · subst e
          by_cases hw : wrd (i : Nat) = d.toList
          · left
            rw [hw]
            first
              | (have he : (!d.toList.isEmpty) = false := by assumption
                 simpa using he)
              | contradiction
          · exact .inr hw
        · exact HNO.out i h1 (by omega)
    · obtain rfl : k = 69 := by omega
      go_wp2_with fail
      go_ret
      refine ⟨?_, hg⟩
      by_cases hd : d.toList = []
      · rw [hd, knd_nil]; rfl
      · rw [knd_none (w := d.toList) (fun j h1 h2 e => (hno j h1 (by omega)).elim (fun h => hd (e ▸ h)) (fun h => h e))]; rfl
end Go.Proofs.Ytlkajmfpbgipbaa
