/-
  Contracts of integer.Cmp, Right (of valid numbers) and of Same over integers.
-/
import Derived.Test.YtdmlcddieadelaaGreatDoorIntA
import Derived.Deep.RegionHeld3
set_option linter.unusedVariables false
set_option linter.unusedSimpArgs false
namespace Go.Proofs.YtdmlcddieadelaaGreatDoor
open Go.RowKit Nm


theorem intRight_valid {w : World} {g : Bool} {p : Option Addr} {n c : Nat} {X : Int} (hA : IsI w g p n c X) :
    Calls Tryz.prog 100 #[.agg #[.bool g, .slice p n c]] w fun e w' => e = .returned (.bool true) ∧ w.grownBy w' none := by
  obtain ⟨hC, hg⟩ := hA
  have hmax := IRd.max hC
  have hcap := IRd.cap hC
  have hgb := World.grownBy_alloc w (.cells #[.bool g, .slice p n c] 35) none
  by_cases h0 : n = 0
  · subst h0
    have hX : X = 0 := by
      have h1 := hC.len
      have h2 : dg 65536 X.natAbs = [] := List.eq_nil_of_length_eq_zero h1
      have := V_dg (B := 65536) (by omega) X.natAbs
      rw [h2] at this; simp at this; omega
    obtain rfl : g = false := by rw [hg, hX]; rfl
    clear hg
    go_enter Tryz.func100, Tryz.ntmps100
    go_wp2
    go_ret
    exact ⟨rfl, hgb⟩
  · obtain ⟨top, rfl⟩ : ∃ top, n = top + 1 := ⟨n - 1, by omega⟩
    have hlen := hC.len
    have htl : top < (dg 65536 X.natAbs).length := by omega
    have hnz := can_top (Can_dg (B := 65536) (by omega) X.natAbs) top hlen htl
    obtain ⟨b, o, rfl, hc⟩ := IRd.cel hC top htl
    have hb := World.block_lt_of_cell? _ _ hc
    obtain ⟨t, ht⟩ : ∃ t, t = (dg 65536 X.natAbs)[top] := ⟨_, rfl⟩
    rw [← ht] at hc hnz
    have hc2 := hgb.cell hc (by simp)
    have hne : (((t : Int) != 0) = true) := by simp; omega
    clear ht hc hg h0 hlen
    go_enter Tryz.func100, Tryz.ntmps100
    go_wp2
    go_ret
    exact ⟨rfl, hgb⟩

theorem cmpI_bound (x y : Int) : -1 ≤ cmpI x y ∧ cmpI x y ≤ 1 := by unfold cmpI; split <;> (try split) <;> omega




end Go.Proofs.YtdmlcddieadelaaGreatDoor
