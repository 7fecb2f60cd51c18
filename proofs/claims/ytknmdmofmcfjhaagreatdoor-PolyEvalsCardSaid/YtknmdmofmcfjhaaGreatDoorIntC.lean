/-
  Contracts of integer.Cmp, Right (of valid numbers) and of Same over integers.
-/
import Derived.Test.YtknmdmofmcfjhaaGreatDoorIntA
import Derived.Deep.RegionHeld3
set_option linter.unusedVariables false
set_option linter.unusedSimpArgs false
namespace Go.Proofs.YtknmdmofmcfjhaaGreatDoor
open Go.RowKit Nm

theorem same2_any {w : World} {g h : Bool} {p q : Option Addr} {n m c d : Nat} {X Y : Int} (hA : IsI w g p n c X) (hB : IsI w h q m d Y) (e : X = Y) :
    Calls Tryz.prog 102 #[.agg #[.bool g, .slice p n c], .agg #[.bool h, .slice q m d]] w fun e w' => e = .returned (.bool true) ∧ w.grownBy w' none := by
  subst e
  have hg2 := grown_trans (World.grownBy_alloc w (.cells #[.bool g, .slice p n c] 27) none) (World.grownBy_alloc _ (.cells #[.bool h, .slice q m d] 27) none)
  have HS := hid (same_c (hA.1.keep hg2) (hB.1.keep hg2) rfl)
  obtain rfl : g = h := by rw [hA.2, hB.2]
  go_enter Tryz.func102, Tryz.ntmps102
  go_wp2_with (go_at_call 74; refine HS.out.mono ?_; rintro e w3 ⟨rfl, hg3⟩)
  go_ret
  exact ⟨rfl, grown_trans hg2 hg3⟩

theorem intRight_valid {w : World} {g : Bool} {p : Option Addr} {n c : Nat} {X : Int} (hA : IsI w g p n c X) :
    Calls Tryz.prog 119 #[.agg #[.bool g, .slice p n c]] w fun e w' => e = .returned (.bool true) ∧ w.grownBy w' none := by
  obtain ⟨hC, hg⟩ := hA
  have hmax := IRd.max hC
  have hcap := IRd.cap hC
  have hgb := World.grownBy_alloc w (.cells #[.bool g, .slice p n c] 27) none
  by_cases h0 : n = 0
  · subst h0
    have hX : X = 0 := by
      have h1 := hC.len
      have h2 : dg 65536 X.natAbs = [] := List.eq_nil_of_length_eq_zero h1
      have := V_dg (B := 65536) (by omega) X.natAbs
      rw [h2] at this; simp at this; omega
    obtain rfl : g = false := by rw [hg, hX]; rfl
    clear hg
    go_enter Tryz.func119, Tryz.ntmps119
    go_wp2
    go_ret
    exact ⟨rfl, hgb⟩
  · obtain ⟨top, rfl⟩ : ∃ top, n = top + 1 := ⟨n - 1, by omega⟩
    have hlen := hC.len
    have htl : top < (dg 65536 X.natAbs).length := by omega
    have hnz := can_top (Can_dg (B := 65536) (by omega) X.natAbs) top hlen htl
    obtain ⟨b, o, rfl, hc⟩ := IRd.cel hC top htl
    have hb := World.block_lt_of_cell? _ _ hc
    obtain ⟨t, ht⟩ : ∃ t, t = (dg 65536 X.natAbs)[top] := ⟨_, rfl⟩
    rw [← ht] at hc hnz
    have hc2 := hgb.cell hc (by simp)
    have hne : (((t : Int) != 0) = true) := by simp; omega
    clear ht hc hg h0 hlen
    go_enter Tryz.func119, Tryz.ntmps119
    go_wp2
    go_ret
    exact ⟨rfl, hgb⟩

theorem cmpI_bound (x y : Int) : -1 ≤ cmpI x y ∧ cmpI x y ≤ 1 := by unfold cmpI; split <;> (try split) <;> omega

theorem cmpInner_any {w : World} {g h : Bool} {p q : Option Addr} {n m c d N M : Nat} (hA : IsN w p n c N) (hB : IsN w q m d M) :
    Calls Tryz.prog 167 #[.agg #[.bool g, .slice p n c], .agg #[.bool h, .slice q m d]] w fun e w' => e = .returned (.int .i64 (cmpI (N : Nat) (M : Nat))) ∧ w.grownBy w' none := by
  have hg2 := grown_trans (World.grownBy_alloc w (.cells #[.bool g, .slice p n c] 27) none) (World.grownBy_alloc _ (.cells #[.bool h, .slice q m d] 27) none)
  have HC := hid (natCmp_n (hA.keep hg2) (hB.keep hg2))
  generalize cmpI (N : Nat) (M : Nat) = s at *
  go_enter Tryz.func167, Tryz.ntmps167
  go_wp2_with (go_at_call 168; refine HC.out.mono ?_; rintro e w3 ⟨rfl, hg3⟩)
  go_ret
  exact ⟨rfl, grown_trans hg2 hg3⟩

set_option maxHeartbeats 4000000 in
theorem intCmp_any {w : World} {g h : Bool} {p q : Option Addr} {n m c d : Nat} {X Y : Int} (hA : IsZ w g p n c X) (hB : IsZ w h q m d Y) (hn : n ≤ 900000) (hm : m ≤ 900000) :
    Calls Tryz.prog 132 #[.agg #[.bool g, .slice p n c], .agg #[.bool h, .slice q m d]] w fun e w' => e = .returned (.int .i64 (cmpI X Y)) ∧ w.grownBy w' none := by
  have hg2 := grown_trans (grown_trans (World.grownBy_alloc w (.cells #[.bool g, .slice p n c] 27) none) (World.grownBy_alloc _ (.cells #[.bool h, .slice q m d] 27) none)) (grown_drew _ none)
  have S1 := hid (fun W (h : w.grownBy W none) => intSign_any (hA.keep h) hn)
  have S2 := hid (fun W (h : w.grownBy W none) => intSign_any (hB.keep h) hm)
  have C1 := hid (fun W (k : w.grownBy W none) => cmpInner_any (g := g) (h := h) (hA.keep k).1 (hB.keep k).1)
  have C2 := hid (fun W (k : w.grownBy W none) => cmpInner_any (g := h) (h := g) (hB.keep k).1 (hA.keep k).1)
  have b1 := cmpI_bound X 0
  have b2 := cmpI_bound Y 0
  have hcases : (cmpI X 0 < cmpI Y 0 ∧ cmpI X Y = -1) ∨ (cmpI Y 0 < cmpI X 0 ∧ cmpI X Y = 1) ∨
      (cmpI X 0 = cmpI Y 0 ∧ cmpI X 0 < 0 ∧ cmpI (Y.natAbs : Nat) (X.natAbs : Nat) = cmpI X Y) ∨ (cmpI X 0 = cmpI Y 0 ∧ 0 ≤ cmpI X 0 ∧ cmpI (X.natAbs : Nat) (Y.natAbs : Nat) = cmpI X Y) := by
    unfold cmpI
    rcases Int.lt_trichotomy X 0 with h1 | h1 | h1 <;> rcases Int.lt_trichotomy Y 0 with h2 | h2 | h2 <;> (repeat' split) <;> omega
  generalize cmpI (Y.natAbs : Nat) (X.natAbs : Nat) = r1 at *
  generalize cmpI (X.natAbs : Nat) (Y.natAbs : Nat) = r2 at *
  generalize cmpI X Y = r at *
  generalize cmpI X 0 = s at *
  generalize cmpI Y 0 = t at *
  rcases hcases with ⟨k1, rfl⟩ | ⟨k1, rfl⟩ | ⟨rfl, k2, rfl⟩ | ⟨rfl, k2, rfl⟩
  all_goals
    go_enter Tryz.func132, Tryz.ntmps132
    go_wp2_with fail
    go_region_held3 (fun w' => w'.cell? ⟨w.heap.size, 0, none⟩ = some (.bool g) ∧ w'.cell? ⟨w.heap.size, 1, none⟩ = some (.slice p n c) ∧ w'.cell? ⟨w.heap.size + 1, 0, none⟩ = some (.bool h) ∧ w'.cell? ⟨w.heap.size + 1, 1, none⟩ = some (.slice q m d)) (simp [*, go_sem, World.cell?_alloc_past])
      (first
        | (go_at_call 120; ((with_reducible refine (S1.out _ hg2).mono ?_)); rintro e w3 ⟨rfl, hg3⟩; have hc3 := gcell hg3; have hz3 := hg3.size; simp at hz3)
        | (go_at_call 120; ((with_reducible refine (S2.out _ (grown_trans hg2 hg3)).mono ?_)); rintro e w4 ⟨rfl, hg4⟩; have hg24 := grown_trans hg3 hg4; clear hc3 hz3; have hc4 := gcell hg24; have hz4 := hg24.size; simp at hz4))
  all_goals
    have hg4' := grown_trans hg2 hg24
    go_wp2_with (first
      | (go_at_call 167; ((with_reducible refine (C1.out _ hg4').mono ?_)); rintro e w5 ⟨rfl, hg5⟩)
      | (go_at_call 167; ((with_reducible refine (C2.out _ hg4').mono ?_)); rintro e w5 ⟨rfl, hg5⟩))
    go_ret
    first
      | exact ⟨rfl, grown_trans hg4' hg5⟩
      | exact ⟨rfl, hg4'⟩


end Go.Proofs.YtknmdmofmcfjhaaGreatDoor
