/-
  Contract of small over naturals.
-/
import Derived.Test.YtkggoniecmlglaaDoorForms
set_option linter.unusedVariables false
set_option linter.unusedSimpArgs false
namespace Go.Proofs.YtkggoniecmlglaaDoor
open Go.RowKit Nm

set_option maxHeartbeats 1000000 in
/-- small: whether all of some slices have at most 24 limbs -/
theorem small1_any (g c : Nat) (vs : List (Option Addr × Nat × Nat)) (w : World) (hn : vs.length ≤ 1000) (h : ∀ j (hj : j < vs.length), w.cell? ⟨g, j, none⟩ = some (.slice vs[j].1 vs[j].2.1 vs[j].2.2)) :
    Calls Tryd.prog 7 #[.slice (some ⟨g, 0, none⟩) vs.length c] w fun e w' => e = .returned (.bool (decide (∀ v ∈ vs, v.2.1 ≤ 24))) ∧ w = w' := by
  obtain ⟨n, hnn⟩ : ∃ n, n = vs.length := ⟨_, rfl⟩
  rw [← hnn] at hn ⊢
  have H := hid h
  have HN := hid hnn
  clear h hnn
  go_enter Tryd.func7, Tryd.ntmps7
  go_wp2_with fail
  go_loop [3] (fun i => ∃ k : Nat, k ≤ n ∧ i = .int .i64 k ∧ Hid (∀ j (hj : j < vs.length), j < k → vs[j].2.1 ≤ 24)) (fun i => n - (intOf i).toNat)
  case atStart => exact ⟨0, Nat.zero_le _, rfl, hid fun j _ h => by omega⟩
  case round =>
    obtain ⟨k, hk, rfl, HK⟩ := hrel
    by_cases hlt : k < n
    · have hkv : k < vs.length := by rw [← HN.out]; exact hlt
      have hc := H.out k hkv
      obtain ⟨v, hv⟩ : ∃ v, v = vs[k] := ⟨_, rfl⟩
      rw [← hv] at hc
      obtain ⟨p, m, d⟩ := v
      simp only [] at hc
      have HV := hid hv
      clear hv
      have hki : (k : Int) < (n : Int) := by omega
      by_cases h24 : m ≤ 24
      · have h24' : ¬ ((24 : Int) < (m : Int)) := by omega
        go_wp2
        refine ⟨⟨k + 1, by omega, rfl, hid fun j hj hjk => ?_⟩, by simp [intOf]; omega⟩
        by_cases e : j = k
        · subst e; rw [← HV.out]; exact h24
        · exact HK.out j hj (by omega)
      · have h24' : ((24 : Int) < (m : Int)) := by omega
        go_wp2
        go_ret
        have : ¬ ∀ v ∈ vs, v.2.1 ≤ 24 := fun h => by
          have := h vs[k] (List.getElem_mem hkv)
          rw [← HV.out] at this; exact h24 this
        rw [decide_eq_false this]
        exact ⟨rfl, rfl⟩
    · obtain rfl : k = n := by omega
      go_wp2
      go_ret
      have : ∀ v ∈ vs, v.2.1 ≤ 24 := fun v hv => by
        obtain ⟨j, hj, rfl⟩ := List.getElem_of_mem hv
        exact HK.out j hj (by rw [HN.out]; exact hj)
      rw [decide_eq_true this]
      exact ⟨rfl, rfl⟩
end Go.Proofs.YtkggoniecmlglaaDoor
