/-
  FcA FcO FcB AstA AstT AstU SRow SOwn AstN, in one text.
-/
import Derived.Test.YtiaonbofkgkdhaaGreatDoorProg
import Derived.Test.YtiaonbofkgkdhaaGreatDoorZMem
import Derived.Test.YtiaonbofkgkdhaaGreatDoorBox4
import Derived.Test.YtiaonbofkgkdhaaGreatDoorOwn
import Derived.StillTailTactics
import Derived.Deep.DeepCutAuto
import Derived.IntWalk
import Derived.Deep.RegionHeld3
import Derived.Test.YtiaonbofkgkdhaaGreatDoorDig
import Derived.Test.YtiaonbofkgkdhaaGreatDoorRows
import Derived.WalkKit
import Derived.ProofKit
import Derived.OpenShut
import Derived.SliceStrings
import Derived.Test.YtiaonbofkgkdhaaGreatDoorMrT
import Derived.Test.YtiaonbofkgkdhaaGreatDoorMem
import Derived.Shelf.Bits.Mul64
import Derived.Lib.Strings

set_option linter.unusedVariables false
set_option linter.unusedSimpArgs false
namespace Go.Proofs.YtiaonbofkgkdhaaGreatDoor
open Go.RowKit _root_.Nm
/-- the number of arguments of a fact -/
def arF (k : Int) : Nat := if k = 1 then 3 else if k = 2 then 4 else if k = 3 then 4 else if k = 4 then 4 else if k = 5 then 3 else if k = 6 then 4 else if k = 7 then 8 else if k = 8 then 2 else if k = 9 then 4 else 0
theorem arF_le (k : Int) : arF k ≤ 8 := by
  unfold arF
  repeat' split
  all_goals omega
set_option maxHeartbeats 8000000 in
set_option maxRecDepth 100000 in
theorem shape_any (k : Int) (w : World) : Calls Tryz.prog 19 #[.int .i64 k] w fun e w' => (∃ s : ByteArray, e = .returned (.tuple #[.string s, .int .i64 (arF k : Nat)])) ∧ w.grownBy w' none := by
  unfold arF
  by_cases h1 : k = 1
  · subst h1
    go_enter Tryz.func19, Tryz.ntmps19
    go_wp2_with fail
    go_ret2
    exact ⟨⟨_, rfl⟩, grown_refl _ _⟩
  by_cases h2 : k = 2
  · subst h2
    go_enter Tryz.func19, Tryz.ntmps19
    go_wp2_with fail
    go_ret2
    exact ⟨⟨_, rfl⟩, grown_refl _ _⟩
  by_cases h3 : k = 3
  · subst h3
    go_enter Tryz.func19, Tryz.ntmps19
    go_wp2_with fail
    go_ret2
    exact ⟨⟨_, rfl⟩, grown_refl _ _⟩
  by_cases h4 : k = 4
  · subst h4
    go_enter Tryz.func19, Tryz.ntmps19
    go_wp2_with fail
    go_ret2
    exact ⟨⟨_, rfl⟩, grown_refl _ _⟩
  by_cases h5 : k = 5
  · subst h5
    go_enter Tryz.func19, Tryz.ntmps19
    go_wp2_with fail
    go_ret2
    exact ⟨⟨_, rfl⟩, grown_refl _ _⟩
  by_cases h6 : k = 6
  · subst h6
    go_enter Tryz.func19, Tryz.ntmps19
    go_wp2_with fail
    go_ret2
    exact ⟨⟨_, rfl⟩, grown_refl _ _⟩
  by_cases h7 : k = 7
  · subst h7
    go_enter Tryz.func19, Tryz.ntmps19
    go_wp2_with fail
    go_ret2
    exact ⟨⟨_, rfl⟩, grown_refl _ _⟩
  by_cases h8 : k = 8
  · subst h8
    go_enter Tryz.func19, Tryz.ntmps19
    go_wp2_with fail
    go_ret2
    exact ⟨⟨_, rfl⟩, grown_refl _ _⟩
  by_cases h9 : k = 9
  · subst h9
    go_enter Tryz.func19, Tryz.ntmps19
    go_wp2_with fail
    go_ret2
    exact ⟨⟨_, rfl⟩, grown_refl _ _⟩
  go_enter Tryz.func19, Tryz.ntmps19
  go_wp2_with fail
  go_ret2
  exact ⟨⟨_, by simp [h1, h2, h3, h4, h5, h6, h7, h8, h9]; rfl⟩, grown_refl _ _⟩
set_option maxHeartbeats 4000000 in
set_option maxRecDepth 100000 in
theorem arity_any (k : Int) (w : World) : Calls Tryz.prog 35 #[.int .i64 k] w fun e w' => e = .returned (.int .i64 (arF k : Nat)) ∧ w.grownBy w' none := by
  have H := hid fun w => shape_any k w
  generalize arF k = a at *
  go_enter Tryz.func35, Tryz.ntmps35
  go_wp2_with (go_at_call 19; refine (H.out _).mono ?_; rintro e w1 ⟨⟨s, rfl⟩, hg⟩)
  go_ret
  exact ⟨rfl, hg⟩
set_option maxHeartbeats 8000000 in
set_option maxRecDepth 100000 in
theorem rArity_any (k : Int) (w : World) : Calls Tryz.prog 46 #[.int .i64 k] w fun e w' => e = .returned (.int .i64 (arF k : Nat)) ∧ w.grownBy w' none := by
  unfold arF
  by_cases h1 : k = 1
  · subst h1
    go_enter Tryz.func46, Tryz.ntmps46
    go_wp2_with fail
    go_ret
    exact ⟨by simp, grown_refl _ _⟩
  by_cases h2 : k = 2
  · subst h2
    go_enter Tryz.func46, Tryz.ntmps46
    go_wp2_with fail
    go_ret
    exact ⟨by simp, grown_refl _ _⟩
  by_cases h3 : k = 3
  · subst h3
    go_enter Tryz.func46, Tryz.ntmps46
    go_wp2_with fail
    go_ret
    exact ⟨by simp, grown_refl _ _⟩
  by_cases h4 : k = 4
  · subst h4
    go_enter Tryz.func46, Tryz.ntmps46
    go_wp2_with fail
    go_ret
    exact ⟨by simp, grown_refl _ _⟩
  by_cases h5 : k = 5
  · subst h5
    go_enter Tryz.func46, Tryz.ntmps46
    go_wp2_with fail
    go_ret
    exact ⟨by simp, grown_refl _ _⟩
  by_cases h6 : k = 6
  · subst h6
    go_enter Tryz.func46, Tryz.ntmps46
    go_wp2_with fail
    go_ret
    exact ⟨by simp, grown_refl _ _⟩
  by_cases h7 : k = 7
  · subst h7
    go_enter Tryz.func46, Tryz.ntmps46
    go_wp2_with fail
    go_ret
    exact ⟨by simp, grown_refl _ _⟩
  by_cases h8 : k = 8
  · subst h8
    go_enter Tryz.func46, Tryz.ntmps46
    go_wp2_with fail
    go_ret
    exact ⟨by simp, grown_refl _ _⟩
  by_cases h9 : k = 9
  · subst h9
    go_enter Tryz.func46, Tryz.ntmps46
    go_wp2_with fail
    go_ret
    exact ⟨by simp, grown_refl _ _⟩
  go_enter Tryz.func46, Tryz.ntmps46
  go_wp2_with fail
  go_ret
  exact ⟨by simp [h1, h2, h3, h4, h5, h6, h7, h8, h9], grown_refl _ _⟩
set_option maxHeartbeats 8000000 in
set_option maxRecDepth 100000 in
theorem within_any (p : Option Addr) (n c : Nat) (zs : List Int) (pt : Int) (w : World) (h : ZRd w .i64 p n c zs) (b : Bool) (hb : b = true ↔ ∀ i (hi : i < zs.length), 0 ≤ zs[i] ∧ zs[i] < pt) :
    Calls Tryz.prog 36 #[.slice p n c, .int .i64 pt] w fun e w' => e = .returned (.bool b) ∧ w.grownBy w' none := by
  have hl := h.len
  have hc := h.cap
  have hm := h.max
  have H := hid h
  have HB := hid hb
  clear h hb
  go_enter Tryz.func36, Tryz.ntmps36
  go_wp2_with fail
  go_loopw [9] (fun x wr => ∃ k : Nat, k ≤ n ∧ x = .int .i64 k ∧ w.grownBy wr none ∧ ∀ i (hi : i < zs.length), i < k → 0 ≤ zs[i] ∧ zs[i] < pt) (fun x _ => n - (intOf x).toNat)
  case atStart => exact ⟨0, Nat.zero_le _, rfl, grown_refl _ _, fun i _ h => absurd h (Nat.not_lt_zero i)⟩
  case round =>
    obtain ⟨k, hk, rfl, hg, hall⟩ := hrel
    have HALL := hid hall
    clear hall
    by_cases hlt : k < n
    · obtain ⟨bA, oA, rfl, c0⟩ := (H.out.keep hg).cel k (by omega)
      obtain ⟨z, hz⟩ : ∃ z, z = zs[k]'(by omega) := ⟨_, rfl⟩
      rw [← hz] at c0
      have HZ := hid hz
      clear hz
      by_cases h1 : z < 0
      · obtain rfl : b = false := by
          rw [← Bool.not_eq_true, HB.out]
          intro h9
          have := (h9 k (by omega)).1
          rw [← HZ.out] at this
          omega
        go_wp2_with fail
        go_ret
        exact ⟨rfl, hg⟩
      · by_cases h2 : pt ≤ z
        · obtain rfl : b = false := by
            rw [← Bool.not_eq_true, HB.out]
            intro h9
            have := (h9 k (by omega)).2
            rw [← HZ.out] at this
            omega
          go_wp2_with fail
          go_ret
          exact ⟨rfl, hg⟩
        · go_wp2_with fail
          refine ⟨⟨k + 1, by omega, by go_num, hg, fun i hi h => ?_⟩, by simp [intOf]; omega⟩
          rcases Nat.lt_or_eq_of_le (Nat.le_of_lt_succ h) with h | rfl
          · exact HALL.out i hi h
          · rw [← HZ.out]; omega
    · obtain rfl : k = n := by omega
      obtain rfl : b = true := HB.out.2 fun i hi => HALL.out i hi (by omega)
      go_wp2_with fail
      go_ret
      exact ⟨rfl, hg⟩
theorem box5 {w : World} {G : Nat} {a b c d e : Value} {T : TypeId} (hb : w.heap[G]? = some (.cells #[a, b, c, d, e] T (0, 0))) :
    (w.cell? ⟨G, 0, none⟩ = some a ∧ w.cell? ⟨G, 1, none⟩ = some b ∧ w.cell? ⟨G, 2, none⟩ = some c ∧ w.cell? ⟨G, 3, none⟩ = some d ∧ w.cell? ⟨G, 4, none⟩ = some e) ∧ (∀ o, w.frozen? ⟨G, o, none⟩ = false) := by
  have k := fun i => cell_of_row w G i _ _ _ hb
  have k0 := k 0; have k1 := k 1; have k2 := k 2; have k3 := k 3; have k4 := k 4
  simp at k0 k1 k2 k3 k4
  exact ⟨⟨k0, k1, k2, k3, k4⟩, fun o => frozen_of_row w G o _ _ hb⟩
theorem box2n {w : World} {G : Nat} {a b : Value} {T : TypeId} (hb : w.heap[G]? = some (.cells #[a, b] T (0, 0))) :
    (w.cell? ⟨G, 0, none⟩ = some a ∧ w.cell? ⟨G, 1, none⟩ = some b) ∧ (∀ o, w.frozen? ⟨G, o, none⟩ = false) := by
  have k := fun i => cell_of_row w G i _ _ _ hb
  have k0 := k 0; have k1 := k 1
  simp at k0 k1
  exact ⟨⟨k0, k1⟩, fun o => frozen_of_row w G o _ _ hb⟩
theorem box3n {w : World} {G : Nat} {a b c : Value} {T : TypeId} (hb : w.heap[G]? = some (.cells #[a, b, c] T (0, 0))) :
    w.cell? ⟨G, 0, none⟩ = some a ∧ w.cell? ⟨G, 1, none⟩ = some b ∧ w.cell? ⟨G, 2, none⟩ = some c := by
  have k := fun i => cell_of_row w G i _ _ _ hb
  have k0 := k 0; have k1 := k 1; have k2 := k 2
  simp at k0 k1 k2
  exact ⟨k0, k1, k2⟩
/-- whether the Ratio of something that has one (z), or none, is right, as both sides find it -/
structure RatF (w : World) (z : Bool) (g : Bool) (p1 : Option Addr) (n1 c1 : Nat) (p2 : Option Addr) (n2 c2 : Nat) (R : Bool) : Prop where
  right : z = true → ∀ W, w.grownBy W none → Calls Tryz.prog 69 #[.agg #[.bool g, .slice p1 n1 c1, .slice p2 n2 c2]] W fun e w' => e = .returned (.bool R) ∧ W.grownBy w' none
  rright : z = true → ∀ W, w.grownBy W none → Calls Tryz.prog 47 #[.agg #[.bool g, .slice p1 n1 c1, .slice p2 n2 c2]] W fun e w' => e = .returned (.bool R) ∧ W.grownBy w' none
  none : z = false → R = (!g && (decide (n1 = 0) && decide (n2 = 0)))
theorem RatF.keep {w w' : World} {z g : Bool} {p1 : Option Addr} {n1 c1 : Nat} {p2 : Option Addr} {n2 c2 : Nat} {R : Bool} (h : RatF w z g p1 n1 c1 p2 n2 c2 R) (hg : w.grownBy w' Option.none) : RatF w' z g p1 n1 c1 p2 n2 c2 R where
  right := fun hb W hW => h.right hb W (grown_trans hg hW)
  rright := fun hb W hW => h.rright hb W (grown_trans hg hW)
  none := h.none
set_option maxHeartbeats 4000000 in
set_option maxRecDepth 100000 in
theorem rNone14_any (g : Bool) (p q : Option Addr) (n c m d : Nat) (R : Bool) (hR : R = (!g && (decide (n = 0) && decide (m = 0)))) (w : World) :
    Calls Tryz.prog 48 #[.agg #[.bool g, .slice p n c, .slice q m d]] w fun e w' => e = .returned (.bool R) ∧ w.grownBy w' none := by
  subst hR
  have hW := World.grownBy_alloc w (.cells #[.bool g, .slice p n c, .slice q m d] 28 (0, 0)) none
  obtain ⟨k0, k1, k2⟩ := box3n (blk0 w (.cells #[.bool g, .slice p n c, .slice q m d] 28 (0, 0)))
  cases g
  · by_cases hn : n = 0
    · subst hn
      go_enter Tryz.func48, Tryz.ntmps48
      go_wp2_with fail
      go_ret
      have hm : ((m : Int) == 0) = decide (m = 0) := by rw [Bool.eq_iff_iff]; simp
      exact ⟨by simp [hm], hW⟩
    · have hz : ((n : Int) == 0) = false := by simpa using hn
      go_enter Tryz.func48, Tryz.ntmps48
      go_wp2_with fail
      go_ret
      exact ⟨by simp [hn], hW⟩
  · go_enter Tryz.func48, Tryz.ntmps48
    go_wp2_with fail
    go_ret
    exact ⟨by simp, hW⟩
set_option maxHeartbeats 8000000 in
set_option maxRecDepth 100000 in
theorem fRatio_any (k : Int) (pa : Option Addr) (na ca : Nat) (g : Bool) (p1 : Option Addr) (n1 c1 : Nat) (p2 : Option Addr) (n2 c2 : Nat) (R : Bool) (w : World) (hR : RatF w (decide (k = 9)) g p1 n1 c1 p2 n2 c2 R) :
    Calls Tryz.prog 37 #[.agg #[.int .i64 k, .slice pa na ca, .bool g, .slice p1 n1 c1, .slice p2 n2 c2]] w fun e w' => e = .returned (.bool R) ∧ w.grownBy w' none := by
  have hW := World.grownBy_alloc w (.cells #[.int .i64 k, .slice pa na ca, .bool g, .slice p1 n1 c1, .slice p2 n2 c2] 30 (0, 0)) none
  obtain ⟨⟨k0, k1, k2, k3, k4⟩, -⟩ := box5 (blk0 w (.cells #[.int .i64 k, .slice pa na ca, .bool g, .slice p1 n1 c1, .slice p2 n2 c2] 30 (0, 0)))
  by_cases hk : k = 9
  · subst hk
    have HR := hid (hR.right (by simp))
    clear hR
    go_enter Tryz.func37, Tryz.ntmps37
    go_upto_region 1 with fail
    generalize (w.alloc _) = w0 at *
    go_wp2_with (go_at_call 69; refine (HR.out _ hW).mono ?_; rintro e w1 ⟨rfl, hg⟩)
    go_ret
    exact ⟨rfl, grown_trans hW hg⟩
  · have hq : (k == 9) = false := by simpa using hk
    obtain rfl := hR.none (by simp [hk])
    clear hR hk
    have hm : ((n2 : Int) == 0) = decide (n2 = 0) := by rw [Bool.eq_iff_iff]; simp
    have HM := hid hm
    clear hm
    go_enter Tryz.func37, Tryz.ntmps37
    go_upto_region 1 with fail
    generalize (w.alloc _) = w0 at *
    have hW2 := World.grownBy_alloc w0 (.cells #[.bool g, .slice p1 n1 c1] 26 (0, 0)) none
    obtain ⟨⟨z0, z1⟩, fz⟩ := box2n (blk0 w0 (.cells #[.bool false, .slice none 0 0] 26 (0, 0)))
    have fz0 := fz 0; have fz1 := fz 1
    clear fz
    go_upto_region 4 with fail
    clear z0 z1 fz0 fz1
    obtain ⟨⟨b0, b1⟩, -⟩ := box2n (blk0 w0 (.cells #[.bool g, .slice p1 n1 c1] 26 (0, 0)))
    replace k0 := hW2.cell k0 (by simp); replace k1 := hW2.cell k1 (by simp); replace k2 := hW2.cell k2 (by simp); replace k3 := hW2.cell k3 (by simp); replace k4 := hW2.cell k4 (by simp)
    have HW := hid (grown_trans hW hW2)
    clear hW hW2
    generalize (w0.alloc _) = w1 at *
    generalize w0.heap.size = G1 at *
    cases g
    · by_cases hn : n1 = 0
      · subst hn
        go_wp2_with fail
        go_ret
        exact ⟨by simp [HM.out], HW.out⟩
      · have hz : ((n1 : Int) == 0) = false := by simpa using hn
        go_wp2_with fail
        go_ret
        exact ⟨by simp [hn], HW.out⟩
    · go_wp2_with fail
      go_ret
      exact ⟨by simp, HW.out⟩
/-- the error of a fact -/
def errF (k : Int) (n : Nat) (b R : Bool) : Int := if arF k = 0 then 8 else if n ≠ arF k then 1 else if b = false then 2 else if R = false then 1 else 0
set_option maxHeartbeats 16000000 in
set_option maxRecDepth 100000 in
theorem fRight_n (k : Int) (pa : Option Addr) (na ca : Nat) (g : Bool) (p1 : Option Addr) (n1 c1 : Nat) (p2 : Option Addr) (n2 c2 : Nat) (zs : List Int) (pt : Int) (b R : Bool) (w : World) (h : ZRd w .i64 pa na ca zs) (hb : b = true ↔ ∀ i (hi : i < zs.length), 0 ≤ zs[i] ∧ zs[i] < pt) (hR : RatF w (decide (k = 9)) g p1 n1 c1 p2 n2 c2 R) :
    Calls Tryz.prog 17 #[.agg #[.int .i64 k, .slice pa na ca, .bool g, .slice p1 n1 c1, .slice p2 n2 c2], .int .i64 pt] w fun e w' => e = .returned (.int .i64 (errF k na b R)) ∧ w.grownBy w' none := by
  have hW := World.grownBy_alloc w (.cells #[.int .i64 k, .slice pa na ca, .bool g, .slice p1 n1 c1, .slice p2 n2 c2] 30 (0, 0)) none
  obtain ⟨⟨k0, k1, k2, k3, k4⟩, -⟩ := box5 (blk0 w (.cells #[.int .i64 k, .slice pa na ca, .bool g, .slice p1 n1 c1, .slice p2 n2 c2] 30 (0, 0)))
  have HA := hid fun w => arity_any k w
  have HI := hid fun w' (hg : w.grownBy w' none) => within_any pa na ca zs pt w' (h.keep hg) b hb
  have HR := hid fun w' (hg : w.grownBy w' none) => fRatio_any k pa na ca g p1 n1 c1 p2 n2 c2 R w' (hR.keep hg)
  clear h hb hR
  unfold errF
  generalize arF k = a at *
  by_cases h0 : a = 0
  · subst h0
    go_enter Tryz.func17, Tryz.ntmps17
    go_upto_region 1 with fail
    generalize (w.alloc _) = w0 at *
    go_wp2_with (first | (go_at_call 35; refine (HA.out _).mono ?_; rintro e w1 ⟨rfl, hg⟩; replace hW := grown_trans hW hg; replace k0 := hg.cell k0 (by simp); replace k1 := hg.cell k1 (by simp); replace k2 := hg.cell k2 (by simp); replace k3 := hg.cell k3 (by simp); replace k4 := hg.cell k4 (by simp); clear hg) | (go_at_call 36; refine (HI.out _ hW).mono ?_; rintro e w1 ⟨rfl, hg⟩; replace hW := grown_trans hW hg; replace k0 := hg.cell k0 (by simp); replace k1 := hg.cell k1 (by simp); replace k2 := hg.cell k2 (by simp); replace k3 := hg.cell k3 (by simp); replace k4 := hg.cell k4 (by simp); clear hg) | (go_at_call 37; refine (HR.out _ hW).mono ?_; rintro e w1 ⟨rfl, hg⟩; replace hW := grown_trans hW hg; replace k0 := hg.cell k0 (by simp); replace k1 := hg.cell k1 (by simp); replace k2 := hg.cell k2 (by simp); replace k3 := hg.cell k3 (by simp); replace k4 := hg.cell k4 (by simp); clear hg))
    go_ret
    exact ⟨by simp, hW⟩
  · have hq0 : ((a : Int) == 0) = false := by simpa using h0
    rw [if_neg h0]
    by_cases h1 : na = a
    · subst h1
      rw [if_neg (by simp)]
      cases b
      · go_enter Tryz.func17, Tryz.ntmps17
        go_upto_region 1 with fail
        generalize (w.alloc _) = w0 at *
        go_wp2_with (first | (go_at_call 35; refine (HA.out _).mono ?_; rintro e w1 ⟨rfl, hg⟩; replace hW := grown_trans hW hg; replace k0 := hg.cell k0 (by simp); replace k1 := hg.cell k1 (by simp); replace k2 := hg.cell k2 (by simp); replace k3 := hg.cell k3 (by simp); replace k4 := hg.cell k4 (by simp); clear hg) | (go_at_call 36; refine (HI.out _ hW).mono ?_; rintro e w1 ⟨rfl, hg⟩; replace hW := grown_trans hW hg; replace k0 := hg.cell k0 (by simp); replace k1 := hg.cell k1 (by simp); replace k2 := hg.cell k2 (by simp); replace k3 := hg.cell k3 (by simp); replace k4 := hg.cell k4 (by simp); clear hg) | (go_at_call 37; refine (HR.out _ hW).mono ?_; rintro e w1 ⟨rfl, hg⟩; replace hW := grown_trans hW hg; replace k0 := hg.cell k0 (by simp); replace k1 := hg.cell k1 (by simp); replace k2 := hg.cell k2 (by simp); replace k3 := hg.cell k3 (by simp); replace k4 := hg.cell k4 (by simp); clear hg))
        go_ret
        exact ⟨by simp, hW⟩
      · cases R
        all_goals
          go_enter Tryz.func17, Tryz.ntmps17
          go_upto_region 1 with fail
          generalize (w.alloc _) = w0 at *
          go_wp2_with (first | (go_at_call 35; refine (HA.out _).mono ?_; rintro e w1 ⟨rfl, hg⟩; replace hW := grown_trans hW hg; replace k0 := hg.cell k0 (by simp); replace k1 := hg.cell k1 (by simp); replace k2 := hg.cell k2 (by simp); replace k3 := hg.cell k3 (by simp); replace k4 := hg.cell k4 (by simp); clear hg) | (go_at_call 36; refine (HI.out _ hW).mono ?_; rintro e w1 ⟨rfl, hg⟩; replace hW := grown_trans hW hg; replace k0 := hg.cell k0 (by simp); replace k1 := hg.cell k1 (by simp); replace k2 := hg.cell k2 (by simp); replace k3 := hg.cell k3 (by simp); replace k4 := hg.cell k4 (by simp); clear hg) | (go_at_call 37; refine (HR.out _ hW).mono ?_; rintro e w1 ⟨rfl, hg⟩; replace hW := grown_trans hW hg; replace k0 := hg.cell k0 (by simp); replace k1 := hg.cell k1 (by simp); replace k2 := hg.cell k2 (by simp); replace k3 := hg.cell k3 (by simp); replace k4 := hg.cell k4 (by simp); clear hg))
          go_ret
          exact ⟨by simp, hW⟩
    · have hq1 : ((na : Int) != (a : Int)) = true := by simp; omega
      rw [if_pos h1]
      go_enter Tryz.func17, Tryz.ntmps17
      go_upto_region 1 with fail
      generalize (w.alloc _) = w0 at *
      go_wp2_with (first | (go_at_call 35; refine (HA.out _).mono ?_; rintro e w1 ⟨rfl, hg⟩; replace hW := grown_trans hW hg; replace k0 := hg.cell k0 (by simp); replace k1 := hg.cell k1 (by simp); replace k2 := hg.cell k2 (by simp); replace k3 := hg.cell k3 (by simp); replace k4 := hg.cell k4 (by simp); clear hg) | (go_at_call 36; refine (HI.out _ hW).mono ?_; rintro e w1 ⟨rfl, hg⟩; replace hW := grown_trans hW hg; replace k0 := hg.cell k0 (by simp); replace k1 := hg.cell k1 (by simp); replace k2 := hg.cell k2 (by simp); replace k3 := hg.cell k3 (by simp); replace k4 := hg.cell k4 (by simp); clear hg) | (go_at_call 37; refine (HR.out _ hW).mono ?_; rintro e w1 ⟨rfl, hg⟩; replace hW := grown_trans hW hg; replace k0 := hg.cell k0 (by simp); replace k1 := hg.cell k1 (by simp); replace k2 := hg.cell k2 (by simp); replace k3 := hg.cell k3 (by simp); replace k4 := hg.cell k4 (by simp); clear hg))
      go_ret
      exact ⟨by simp, hW⟩
set_option maxHeartbeats 32000000 in
set_option maxRecDepth 100000 in
theorem rRight14_n (k : Int) (pa : Option Addr) (na ca : Nat) (g : Bool) (p1 : Option Addr) (n1 c1 : Nat) (p2 : Option Addr) (n2 c2 : Nat) (zs : List Int) (pt : Int) (b R : Bool) (w : World) (h : ZRd w .i64 pa na ca zs) (hb : b = true ↔ ∀ i (hi : i < zs.length), 0 ≤ zs[i] ∧ zs[i] < pt) (hR : RatF w (decide (k = 9)) g p1 n1 c1 p2 n2 c2 R) :
    Calls Tryz.prog 21 #[.agg #[.int .i64 k, .slice pa na ca, .bool g, .slice p1 n1 c1, .slice p2 n2 c2], .int .i64 pt] w fun e w' => e = .returned (.int .i64 (errF k na b R)) ∧ w.grownBy w' none := by
  have hl := h.len
  have hc := h.cap
  have hm := h.max
  have hW := World.grownBy_alloc w (.cells #[.int .i64 k, .slice pa na ca, .bool g, .slice p1 n1 c1, .slice p2 n2 c2] 30 (0, 0)) none
  obtain ⟨⟨k0, k1, k2, k3, k4⟩, -⟩ := box5 (blk0 w (.cells #[.int .i64 k, .slice pa na ca, .bool g, .slice p1 n1 c1, .slice p2 n2 c2] 30 (0, 0)))
  have HA := hid fun w => rArity_any k w
  have HZS := hid h
  have HB := hid hb
  have HRA := hid hR.rright
  have HRN := hid fun (hk : ¬ k = 9) w => rNone14_any g p1 p2 n1 c1 n2 c2 R (hR.none (by simp [hk])) w
  clear h hb hR
  unfold errF
  generalize arF k = a at *
  by_cases h0 : a = 0
  · subst h0
    go_enter Tryz.func21, Tryz.ntmps21
    go_upto_region 1 with fail
    generalize (w.alloc _) = w0 at *
    go_wp2_with (first | (go_at_call 46; refine (HA.out _).mono ?_; rintro e w1 ⟨rfl, hg⟩; replace hW := grown_trans hW hg; replace k0 := hg.cell k0 (by simp); replace k1 := hg.cell k1 (by simp); replace k2 := hg.cell k2 (by simp); replace k3 := hg.cell k3 (by simp); replace k4 := hg.cell k4 (by simp); clear hg))
    go_ret
    exact ⟨by simp, hW⟩
  · have hq0 : ((a : Int) == 0) = false := by simpa using h0
    rw [if_neg h0]
    by_cases h1 : na = a
    · subst h1
      rw [if_neg (by simp)]
      go_enter Tryz.func21, Tryz.ntmps21
      go_upto_region 1 with fail
      generalize (w.alloc _) = w0 at *
      go_upto_region 3 with (first | (go_at_call 46; refine (HA.out _).mono ?_; rintro e w1 ⟨rfl, hg⟩; replace hW := grown_trans hW hg; replace k0 := hg.cell k0 (by simp); replace k1 := hg.cell k1 (by simp); replace k2 := hg.cell k2 (by simp); replace k3 := hg.cell k3 (by simp); replace k4 := hg.cell k4 (by simp); clear hg))
      clear hq0 h0
      go_region_held3 (fun w' => w'.cell? ⟨w.heap.size, 0, none⟩ = some (.int .i64 k) ∧ w'.cell? ⟨w.heap.size, 1, none⟩ = some (.slice pa na ca) ∧ w'.cell? ⟨w.heap.size, 2, none⟩ = some (.bool g) ∧ w'.cell? ⟨w.heap.size, 3, none⟩ = some (.slice p1 n1 c1) ∧ w'.cell? ⟨w.heap.size, 4, none⟩ = some (.slice p2 n2 c2) ∧ w.grownBy w' none) ((try go_split_ands) <;> (repeat' apply And.intro) <;> (first | (with_reducible assumption) | (with_reducible refine (grown_drew _ none).cell ?_ (by simp); with_reducible assumption) | (with_reducible refine grown_trans ?_ (grown_drew _ none); with_reducible assumption))) (first | (go_at_call 46; (with_reducible refine (HA.out _).mono ?_); rintro e w1 ⟨rfl, hg⟩; (first | replace hW := grown_trans hW hg | replace hW := grown_trans (grown_trans hW (grown_drew _ none)) hg); replace k0 := hg.cell k0 (by simp); replace k1 := hg.cell k1 (by simp); replace k2 := hg.cell k2 (by simp); replace k3 := hg.cell k3 (by simp); replace k4 := hg.cell k4 (by simp); clear hg))
      go_wp2_with fail
      have HW2 := hid hW
      have K0 := hid k0
      have K1 := hid k1
      have K2 := hid k2
      have K3 := hid k3
      have K4 := hid k4
      clear hW k0 k1 k2 k3 k4
      go_loopw [21] (fun y wr => ∃ j : Nat, j ≤ na ∧ y = .int .i64 j ∧ w1.grownBy wr none ∧ ∀ i (hi : i < zs.length), i < j → 0 ≤ zs[i] ∧ zs[i] < pt) (fun y _ => na - (intOf y).toNat)
      case atStart => exact ⟨0, Nat.zero_le _, rfl, (by first | exact grown_refl _ _ | exact grown_drew _ _), fun i _ h => absurd h (Nat.not_lt_zero i)⟩
      case round =>
        obtain ⟨j, hj, rfl, hg, hall⟩ := hrel
        have HALL := hid hall
        clear hall
        by_cases hlt : j < na
        · obtain ⟨bA, oA, rfl, c0⟩ := (HZS.out.keep (grown_trans HW2.out hg)).cel j (by omega)
          obtain ⟨z, hz⟩ : ∃ z, z = zs[j]'(by omega) := ⟨_, rfl⟩
          rw [← hz] at c0
          have HZ := hid hz
          clear hz
          by_cases h1 : z < 0
          · obtain rfl : b = false := by
              rw [← Bool.not_eq_true, HB.out]
              intro h9
              have := (h9 j (by omega)).1
              rw [← HZ.out] at this
              omega
            go_wp2_with fail
            go_ret
            exact ⟨by simp, grown_trans HW2.out hg⟩
          · by_cases h2 : pt ≤ z
            · obtain rfl : b = false := by
                rw [← Bool.not_eq_true, HB.out]
                intro h9
                have := (h9 j (by omega)).2
                rw [← HZ.out] at this
                omega
              go_wp2_with fail
              go_ret
              exact ⟨by simp, grown_trans HW2.out hg⟩
            · go_wp2_with fail
              refine ⟨⟨j + 1, by omega, by go_num, hg, fun i hi h => ?_⟩, by simp [intOf]; omega⟩
              rcases Nat.lt_or_eq_of_le (Nat.le_of_lt_succ h) with h | rfl
              · exact HALL.out i hi h
              · rw [← HZ.out]; omega
        · obtain rfl : j = na := by omega
          obtain rfl : b = true := HB.out.2 fun i hi => HALL.out i hi (by omega)
          have k0 := hg.cell K0.out (by simp)
          have k1 := hg.cell K1.out (by simp)
          have k2 := hg.cell K2.out (by simp)
          have k3 := hg.cell K3.out (by simp)
          have k4 := hg.cell K4.out (by simp)
          have hW := grown_trans HW2.out hg
          clear HW2 K0 K1 K2 K3 K4 hg
          by_cases hk : k = 9
          · subst hk
            have HRR := hid (HRA.out (by simp))
            cases R
            all_goals
              go_wp2_with (go_at_call 47; refine (HRR.out _ hW).mono ?_; rintro e w2 ⟨rfl, hg⟩; replace hW := grown_trans hW hg; replace k0 := hg.cell k0 (by simp); replace k1 := hg.cell k1 (by simp); replace k2 := hg.cell k2 (by simp); replace k3 := hg.cell k3 (by simp); replace k4 := hg.cell k4 (by simp); clear hg)
              go_ret
              exact ⟨by simp, hW⟩
          · have hkb : (k == 9) = false := by simpa using hk
            have hkc : (k != 9) = true := by simpa using hk
            have HNN := hid fun w => HRN.out hk w
            cases R
            all_goals
              go_wp2_with (go_at_call 48; refine (HNN.out _).mono ?_; rintro e w2 ⟨rfl, hg⟩; replace hW := grown_trans hW hg; replace k0 := hg.cell k0 (by simp); replace k1 := hg.cell k1 (by simp); replace k2 := hg.cell k2 (by simp); replace k3 := hg.cell k3 (by simp); replace k4 := hg.cell k4 (by simp); clear hg)
              go_ret
              exact ⟨by simp, hW⟩
    · have hq1 : ((na : Int) != (a : Int)) = true := by simp; omega
      rw [if_pos h1]
      go_enter Tryz.func21, Tryz.ntmps21
      go_upto_region 1 with fail
      generalize (w.alloc _) = w0 at *
      go_upto_region 3 with (first | (go_at_call 46; refine (HA.out _).mono ?_; rintro e w1 ⟨rfl, hg⟩; replace hW := grown_trans hW hg; replace k0 := hg.cell k0 (by simp); replace k1 := hg.cell k1 (by simp); replace k2 := hg.cell k2 (by simp); replace k3 := hg.cell k3 (by simp); replace k4 := hg.cell k4 (by simp); clear hg))
      go_region_held3 (fun w' => w'.cell? ⟨w.heap.size, 0, none⟩ = some (.int .i64 k) ∧ w'.cell? ⟨w.heap.size, 1, none⟩ = some (.slice pa na ca) ∧ w'.cell? ⟨w.heap.size, 2, none⟩ = some (.bool g) ∧ w'.cell? ⟨w.heap.size, 3, none⟩ = some (.slice p1 n1 c1) ∧ w'.cell? ⟨w.heap.size, 4, none⟩ = some (.slice p2 n2 c2) ∧ w.grownBy w' none) ((try go_split_ands) <;> (repeat' apply And.intro) <;> (first | (with_reducible assumption) | (with_reducible refine (grown_drew _ none).cell ?_ (by simp); with_reducible assumption) | (with_reducible refine grown_trans ?_ (grown_drew _ none); with_reducible assumption))) (first | (go_at_call 46; (with_reducible refine (HA.out _).mono ?_); rintro e w1 ⟨rfl, hg⟩; (first | replace hW := grown_trans hW hg | replace hW := grown_trans (grown_trans hW (grown_drew _ none)) hg); replace k0 := hg.cell k0 (by simp); replace k1 := hg.cell k1 (by simp); replace k2 := hg.cell k2 (by simp); replace k3 := hg.cell k3 (by simp); replace k4 := hg.cell k4 (by simp); clear hg))
      go_wp2_with fail
      go_ret
      exact ⟨by simp, by first | exact hW | exact grown_trans hW (grown_drew _ none)⟩
end Go.Proofs.YtiaonbofkgkdhaaGreatDoor

set_option linter.unusedVariables false
set_option linter.unusedSimpArgs false
namespace Go.Proofs.YtiaonbofkgkdhaaGreatDoor
open Go.ChangeShapes Go.WideShapes Go.ChangeAt Go.RowKit _root_.Nm
theorem cellsIntF : Tryz.prog.cellsOf 3 = 1 := by kernel_rfl
theorem cellsIntsF : Tryz.prog.cellsOf 22 = 1 := by kernel_rfl
theorem cells16F : Tryz.prog.cellsOf 47 = 1 := by kernel_rfl
theorem cellsNatF : Tryz.prog.cellsOf 24 = 1 := by kernel_rfl
theorem cellsIF : Tryz.prog.cellsOf 26 = 2 := by kernel_rfl
theorem cellsRatF : Tryz.prog.cellsOf 28 = 3 := by kernel_rfl
theorem cellsBoolF : Tryz.prog.cellsOf 4 = 1 := by kernel_rfl
theorem cellsFactF : Tryz.prog.cellsOf 30 = 5 := by kernel_rfl
theorem bulk_oneF {H : Type} (d : DataW H) : 1 ≤ Rows.uptoBulk d := by
  cases d with
  | lit l => cases l <;> simp [Rows.uptoBulk]
  | _ => simp [Rows.uptoBulk]
theorem bulk_partF {H : Type} {d : DataW H} {l : List (DataW H)} (h : d ∈ l) : Rows.uptoBulk d ≤ Rows.uptoBulkAll l := by
  induction l with
  | nil => cases h
  | cons x r ih =>
    simp only [Rows.uptoBulkAll]
    rcases List.mem_cons.1 h with rfl | h
    · omega
    · have := ih h
      omega
theorem bulkAll_lenF {H : Type} : ∀ (l : List (DataW H)), l.length ≤ Rows.uptoBulkAll l
  | [] => by simp
  | d :: l => by
    have := bulkAll_lenF l
    have := bulk_oneF d
    simp only [Rows.uptoBulkAll, List.length_cons]
    omega
section
variable {H : Type} {enc : TypeId × Value → H} {W : World}
theorem open_natF {fuel : Nat} {cs : List Value} {x : DataW H × List MemPlace} (hf : DataW.trod enc Tryz.prog W 0 (fun _ => true) true fuel 24 cs = some x) :
    ∃ a n c xs, cs = [.slice a n c] ∧ IRd W .u16 a n c xs ∧ Dg 65536 xs ∧ n + 1 ≤ Rows.uptoBulk x.1 := by
  rcases open_ints Tryz.underlying24 Tryz.underlying47 cells16F hf with ⟨hcs, hx⟩ | ⟨a, len', cap', zs, hcs, _, hl, hm, hz, hx, hcell, hwz⟩
  · exact ⟨none, 0, 0, [], hcs, IRd.nil W _, fun y hy => (by cases hy), by rw [hx]; simp [Rows.uptoBulk]⟩
  · simp only [if_true] at hz
    have hb : ∀ z ∈ zs, 0 ≤ z ∧ z ≤ 65535 := fun z hzm => bounds_u16 (hwz z hzm)
    refine ⟨some a, len', cap', (zs.take len').map Int.toNat, hcs, ⟨by simp; omega, hl, by unfold maxLen at hm; omega, fun j hj => ?_⟩, ?_, ?_⟩
    · have hj' : j < len' := by simp at hj; omega
      have hc := hcell j (by omega)
      have hg : zs.getD j 0 = zs[j]'(by omega) := by simp [List.getD, List.getElem?_eq_getElem (show j < zs.length by omega)]
      have hsp := World.cell?_spot (hcell 0 (by omega))
      have ha : ∃ b o, a = ⟨b, o, none⟩ := ⟨a.block, a.off, by
        cases a with
        | mk b o s => simp [Addr.add] at hsp; simp [hsp]⟩
      obtain ⟨b, o, rfl⟩ := ha
      refine ⟨b, o, rfl, ?_⟩
      rw [add_addr] at hc
      rw [hc, hg]
      have := hb _ (List.getElem_mem (show j < zs.length by omega))
      simp only [List.getElem_map, List.getElem_take]
      congr 2; omega
    · intro y hy
      obtain ⟨z, hzm, rfl⟩ := List.mem_map.1 hy
      have := hb z (List.mem_of_mem_take hzm)
      omega
    · rw [hx]
      have h1 := bulkAll_lenF (H := H) (lits .u16 (zs.take len'))
      have h2 : (lits (H := H) .u16 (zs.take len')).length = len' := by simp [lits]; omega
      simp only [Rows.uptoBulk]
      omega
theorem open_intsF {fuel : Nat} {cs : List Value} {x : DataW H × List MemPlace} (hf : DataW.trod enc Tryz.prog W 0 (fun _ => true) true fuel 22 cs = some x) :
    ∃ a n c zs, cs = [.slice a n c] ∧ ZRd W .i64 a n c zs ∧ n + 1 ≤ Rows.uptoBulk x.1 := by
  rcases open_ints Tryz.underlying22 Tryz.underlying3 cellsIntF hf with ⟨hcs, hx⟩ | ⟨a, len', cap', zs, hcs, _, hl, hm, hz, hx, hcell, hwz⟩
  · exact ⟨none, 0, 0, [], hcs, ZRd.nil W _, by rw [hx]; simp [Rows.uptoBulk]⟩
  · simp only [if_true] at hz
    refine ⟨some a, len', cap', zs.take len', hcs, ⟨by simp; omega, hl, by unfold maxLen at hm; omega, fun j hj => ?_⟩, ?_⟩
    · have hj' : j < len' := by simp at hj; omega
      have hc := hcell j (by omega)
      have hg : zs.getD j 0 = zs[j]'(by omega) := by simp [List.getD, List.getElem?_eq_getElem (show j < zs.length by omega)]
      have hsp := World.cell?_spot (hcell 0 (by omega))
      have ha : ∃ b o, a = ⟨b, o, none⟩ := ⟨a.block, a.off, by
        cases a with
        | mk b o s => simp [Addr.add] at hsp; simp [hsp]⟩
      obtain ⟨b, o, rfl⟩ := ha
      refine ⟨b, o, rfl, ?_⟩
      rw [add_addr] at hc
      rw [hc, hg]
      simp
    · rw [hx]
      have h1 := bulkAll_lenF (H := H) (lits .i64 (zs.take len'))
      have h2 : (lits (H := H) .i64 (zs.take len')).length = len' := by simp [lits]; omega
      simp only [Rows.uptoBulk]
      omega
theorem open_ratF {fuel : Nat} {cs : List Value} {x : DataW H × List MemPlace} (hf : DataW.trod enc Tryz.prog W 0 (fun _ => true) true fuel 28 cs = some x) (hl : cs.length = 3) :
    ∃ g a n c xs b m e ys, cs = [.bool g, .slice a n c, .slice b m e] ∧ IRd W .u16 a n c xs ∧ IRd W .u16 b m e ys ∧ (Dg 65536 xs ∧ Dg 65536 ys) ∧ n + m + 1 ≤ Rows.uptoBulk x.1 := by
  obtain ⟨y0, y1, k, hx, _, h0, h1⟩ := trod_struct2 Tryz.underlying28 hf
  rw [cellsIF] at h0
  obtain ⟨z0, z1, k', hx', _, g0, g1⟩ := trod_struct2 Tryz.underlying26 h0
  rw [cellsBoolF] at g0
  rw [cellsNatF] at g1 h1
  match cs, hl with
  | [u, v, t], _ =>
    obtain ⟨b, hbo, _⟩ := DataW.trod_bool Tryz.underlying4 g0
    obtain ⟨a, n, c, xs, hs, hr, hd, hn⟩ := open_natF g1
    obtain ⟨b', m, e, ys, hs1, hr1, hd1, hm⟩ := open_natF h1
    simp at hbo hs hs1
    subst hbo hs hs1
    refine ⟨b, a, n, c, xs, b', m, e, ys, rfl, hr, hr1, ⟨hd, hd1⟩, ?_⟩
    rw [hx, hx']
    simp only [Rows.uptoBulk, List.map_cons, List.map_nil, Rows.uptoBulkAll]
    omega
/-- a fact in memory -/
def FcRd (w : World) (cs : List Value) : Prop := ∃ (k : Int) (pa : Option Addr) (na ca : Nat) (g : Bool) (p1 : Option Addr) (n1 c1 : Nat) (p2 : Option Addr) (n2 c2 : Nat) (zs : List Int) (xs ys : List Nat),
  cs = [.int .i64 k, .slice pa na ca, .bool g, .slice p1 n1 c1, .slice p2 n2 c2] ∧ ZRd w .i64 pa na ca zs ∧ IRd w .u16 p1 n1 c1 xs ∧ IRd w .u16 p2 n2 c2 ys ∧ (Dg 65536 xs ∧ Dg 65536 ys) ∧ n1 ≤ 1048576 ∧ n2 ≤ 1048576
set_option maxRecDepth 100000 in
theorem open_factF {fuel : Nat} {cs : List Value} {x : DataW H × List MemPlace} (hf : DataW.trod enc Tryz.prog W 0 (fun _ => true) true fuel 30 cs = some x) (hb : Rows.uptoBulk x.1 ≤ 1048576) : FcRd W cs := by
  cases fuel with
  | zero => simp [DataW.trod] at hf
  | succ fuel =>
  obtain ⟨xs, m, hm, rfl, hl, hlen, hfs⟩ := DataW.trod_struct Tryz.underlying30 hf
  rw [cellsFactF] at hl
  match cs, hl, xs, hlen with
  | [c0, c1, c2, c3, c4], _, [y0, y1, y2], _ =>
    have h0 := hfs 0 _ rfl
    have h1 := hfs 1 _ rfl
    have h2 := hfs 2 _ rfl
    clear hfs
    simp [cellsIntF, cellsIntsF, cellsRatF] at h0 h1 h2
    obtain ⟨k, hk, _, _⟩ := DataW.trod_int Tryz.underlying3 h0
    obtain ⟨pa, na, ca, zs, ha, hz, _⟩ := open_intsF h1
    obtain ⟨g, p1, n1, c1', xs, p2, n2, c2', ys, hr, hn, hd, hdg, hrb⟩ := open_ratF h2 rfl
    simp at hk ha hr
    obtain ⟨rfl, rfl, rfl⟩ := hr
    subst hk ha
    have h9 : Rows.uptoBulk y2.1 ≤ 1048576 := Nat.le_trans (bulk_partF (l := [y0.1, y1.1, y2.1]) (by simp)) (by
      simp only [Rows.uptoBulk, List.map_cons, List.map_nil] at hb
      omega)
    exact ⟨k, pa, na, ca, g, p1, n1, c1', p2, n2, c2', zs, xs, ys, rfl, hz, hn, hd, hdg, by omega, by omega⟩
end
end Go.Proofs.YtiaonbofkgkdhaaGreatDoor

set_option linter.unusedVariables false
set_option linter.unusedSimpArgs false
namespace Go.Proofs.YtiaonbofkgkdhaaGreatDoor
open Go.RowKit _root_.Nm
theorem ratF_both {w : World} (Tq : Tb w) (z g : Bool) {p1 p2 : Option Addr} {n1 c1 n2 c2 : Nat} {xs ys : List Nat} (hr0 : IRd w .u16 p1 n1 c1 xs) (hx : Dg 65536 xs) (hr1 : IRd w .u16 p2 n2 c2 ys) (hy : Dg 65536 ys) (hn : n1 ≤ 1048576) (hm : n2 ≤ 1048576) :
    ∃ R, RatF w z g p1 n1 c1 p2 n2 c2 R := by
  cases z
  · exact ⟨_, { right := fun h => (by cases h), rright := fun h => (by cases h), none := fun _ => rfl }⟩
  · obtain ⟨r, h1, h2, _⟩ := right3_full Tq g hr0 hx hr1 hy (by omega) (by omega)
    exact ⟨r, { right := fun _ => h1, rright := fun _ => h2, none := fun h => (by cases h) }⟩
theorem ex_boolF (P : Prop) : ∃ b : Bool, b = true ↔ P := by
  by_cases h : P
  · exact ⟨true, by simp [h]⟩
  · exact ⟨false, by simp [h]⟩
end Go.Proofs.YtiaonbofkgkdhaaGreatDoor

set_option linter.unusedVariables false
set_option linter.unusedSimpArgs false
namespace Go.Proofs.YtiaonbofkgkdhaaGreatDoor
open Go.Shelf Go.RowKit _root_.Nm
set_option maxRecDepth 100000
def astRen : Ren := ⟨fun n => match n with
    | 212 => 189
    | 263 => 193
    | 264 => 157
    | n => n,
  fun n => match n with
    | 46 => 146
    | 51 => 189
    | 53 => 91
    | 146 => 197
    | 148 => 147
    | n => n,
  fun n => n⟩
theorem ast212 : Lays.n212 Tryz.prog astRen where
  mixed := by kernel_rfl
  f212 := by kernel_rfl
  f263 := by kernel_rfl
  f264 := by kernel_rfl
  t46 := by kernel_rfl
  a46 := fun _ => by kernel_rfl
  z46 := fun _ => by kernel_rfl
  v46 := fun _ => by kernel_rfl
  t51 := by kernel_rfl
  a51 := fun _ => by kernel_rfl
  z51 := fun _ => by kernel_rfl
  v51 := fun _ => by kernel_rfl
  t53 := by kernel_rfl
  a53 := fun _ => by kernel_rfl
  z53 := fun _ => by kernel_rfl
  v53 := fun _ => by kernel_rfl
  t146 := by kernel_rfl
  a146 := fun _ => by kernel_rfl
  z146 := fun _ => by kernel_rfl
  v146 := fun _ => by kernel_rfl
  t148 := by kernel_rfl
  a148 := fun _ => by kernel_rfl
  z148 := fun _ => by kernel_rfl
  v148 := fun _ => by kernel_rfl
/-- the address is a new one -/
def Frs (w : World) (p : Option Addr) : Prop := ∀ a, p = some a → w.heap.size ≤ a.block
theorem mul_any (x y : Nat) (h : x * y < 18446744073709551616) (hx : x < 18446744073709551616) (hy : y < 18446744073709551616) (w : World) : Calls Tryz.prog 189 #[.int .u64 (x : Int), .int .u64 (y : Int)] w fun e w' => e = .returned (.tuple #[.int .u64 0, .int .u64 ((x * y : Nat) : Int)]) ∧ w = w' := by
  refine (Any.bits_Mul ast212 x y hx hy w).mono ?_
  rintro e w' ⟨rfl, h2⟩
  rw [Nat.div_eq_of_lt h, Nat.mod_eq_of_lt h]
  exact ⟨rfl, h2.symm⟩
theorem mul_one_any (y : Nat) (hy : y < 18446744073709551616) (w : World) : Calls Tryz.prog 189 #[.int .u64 1, .int .u64 (y : Int)] w fun e w' => e = .returned (.tuple #[.int .u64 0, .int .u64 (y : Int)]) ∧ w = w' := by
  have := mul_any 1 y (by omega) (by omega) hy w
  rw [Nat.one_mul] at this
  exact this
theorem infoInt : (Tryz.prog.info? 3).map (fun i => (i.zero, i.size, i.bytes)) = some (some (.int .i64 0), 1, 8) := by kernel_rfl
theorem sizeInt : (Tryz.prog.info? 3).map (·.size) = some 1 := by kernel_rfl
def ones (m n : Nat) : List Nat := List.replicate m 1 ++ List.replicate (n - m) 0
theorem ones_len {m n : Nat} (h : m ≤ n) : (ones m n).length = n := by simp [ones]; omega
theorem ones_take {m n : Nat} (h : m ≤ n) : (ones m n).take m = List.replicate m 1 := by
  unfold ones; rw [List.take_left' (by simp)]
theorem ones_splice {m n : Nat} (h : m ≤ n) : splice (ones m n) m ((List.replicate m 1).take (n - m)) = ones (m + min m (n - m)) n := by
  unfold splice ones
  rw [List.take_left' (by simp), List.take_replicate, List.length_replicate, List.drop_append, List.length_replicate, List.drop_of_length_le (by simp), List.nil_append, List.drop_replicate, ← List.append_assoc, List.replicate_append_replicate]
  rw [show m + min (n - m) m = m + min m (n - m) by omega, show n - m - (m + min m (n - m) - m) = n - (m + min m (n - m)) by omega]

set_option maxHeartbeats 4000000 in
theorem repeat_any (n b o c : Nat) (hn1 : 1 ≤ n) (hn : n ≤ 1000) (w : World) (h : IRd w .i64 (some ⟨b, o, none⟩) 1 c [1]) :
    Calls Tryz.prog 173 #[.slice (some ⟨b, o, none⟩) 1 c, .int .i64 (n : Int)] w fun e w' => ∃ p, e = .returned (.slice p n n) ∧ Frs w p ∧ IRd w' .i64 p n n (List.replicate n 1) ∧ w.grownBy w' none := by
  have HM := hid (mul_one_any n (by omega))
  have HR := hid h
  have hb := (h.block (by omega))
  have hc := h.cap
  have hm := h.max
  clear h hb
  go_enter Tryz.func173, Tryz.ntmps173
  have hmn : ¬ ((n : Int) < 0) := by omega
  have hmin : min 1 n = 1 := by omega
  have hminI : min (1 : Int) (n : Int) = 1 := by omega
  have hw1 : IntKind.u64.wrap (n : Int) = (n : Int) := by rw [IntKind.wrap_u64]; omega
  have hw2 : IntKind.i64.wrap (n : Int) = (n : Int) := IntWalk.i64_in _ (by omega)
  have hw3 : ¬ (9223372036854775807 < (n : Int)) := by omega
  go_wp2_with (first | (go_at_call 189; (with_reducible refine (HM.out _).mono ?_); rintro e w' ⟨rfl, rfl⟩) | (with_reducible refine wl_make _ rfl (.tmp 29) (.tmp 29) 22 rfl 3 .i64 8 Tryz.underlying22 infoInt .i64 .i64 _ _ rfl rfl n rfl rfl (by omega) (by omega) ?_; intro w1 hr1 hg1; have hx1 := HR.out.keep hg1) | (with_reducible refine wl_copy _ rfl (.tmp 31) (.tmp 32) 22 22 rfl 3 Tryz.underlying22 sizeInt .i64 _ _ n n 1 c rfl rfl w.heap.size 0 _ _ [1] hr1 (fun _ => rfl) hx1 (by simp) ?_; intro w2 hr2 hg2))
  have hs0 : splice (List.replicate n 0) 0 (List.take n [1]) = ones 1 n := by
    obtain ⟨k, rfl⟩ : ∃ k, n = k + 1 := ⟨n - 1, by omega⟩
    unfold splice ones
    simp [List.drop_replicate]
  rw [hs0] at hr2
  have hgw : w.grownBy w2 none := grown_new hg1 hg2 (fun g e => by cases e; exact Nat.le_refl _)
  clear hs0 HM hr1 hx1 hg1 hg2
  go_wp2_with fail
  go_loopw [8] (fun x wr => ∃ m : Nat, x = .int .i64 m ∧ 1 ≤ m ∧ m ≤ n ∧ IRow wr w.heap.size 3 .i64 (ones m n) ∧ w.grownBy wr none) (fun x _ => n - (intOf x).toNat)
  case atStart => exact ⟨1, rfl, Nat.le_refl _, hn1, hr2, hgw⟩
  case round =>
    clear hr2 hgw
    obtain ⟨m, rfl, hm1, hmn', hr, hg⟩ := hrel
    by_cases hlt : m < n
    · have hsrc : IRd wr .i64 (some ⟨w.heap.size, 0, none⟩) m n (List.replicate m 1) := by
        have := hr.rd 0 m n (by rw [ones_len hmn']; omega) hmn' (by omega)
        rwa [List.drop_zero, ones_take hmn'] at this
      go_wp2_with fail
      have hcur : wr.drew.heap[w.heap.size]? = some (.cells ((ones m n).map (iv .i64)).toArray 3 (0, 0)) := hr
      have hcs : (List.replicate (min m (n - m)) (iv .i64 1)).length = Nat.min m (n - m) := List.length_replicate
      have hpos : 0 < (List.replicate (min m (n - m)) (iv .i64 1)).length → (some (⟨w.heap.size, m, none⟩ : Addr)) = some ⟨w.heap.size, m, none⟩ ∧ ∃ ad, (some (⟨w.heap.size, 0, none⟩ : Addr)) = some ad ∧ ∀ j v, (List.replicate (min m (n - m)) (iv .i64 1))[j]? = some v → wr.drew.cell? (ad.add j) = some v := fun _ => ⟨rfl, _, rfl, fun j v hv => by
        obtain ⟨hj, rfl⟩ := List.getElem?_eq_some_iff.1 hv
        rw [List.length_replicate] at hj
        have := hr.cell j (by rw [ones_len hmn']; omega)
        rw [add_addr, Nat.zero_add]
        show wr.cell? _ = _
        rw [this]
        have e : (ones m n)[j]'(by rw [ones_len hmn']; omega) = 1 := by unfold ones; rw [List.getElem_append_left (by simp; omega)]; simp
        rw [e]; simp⟩
      have hfit : m + (List.replicate (min m (n - m)) (iv .i64 1)).length ≤ ((ones m n).map (iv .i64)).length := by rw [List.length_map, ones_len hmn', List.length_replicate]; omega
      have h1c : ∀ v ∈ List.replicate (min m (n - m)) (iv .i64 1), v.oneCell' = true := fun v hv => by rw [List.eq_of_mem_replicate hv]; rfl
      have hbel : Below w.heap.size w wr.drew := grown_below (grown_trans hg (grown_drew _ _))
      have HH1 := hid hcur
      have HH2 := hid hcs
      have HH3 := hid hpos
      have HH4 := hid hfit
      have HH5 := hid h1c
      have HH6 := hid hbel
      clear hcur hcs hpos hfit h1c hbel
      have hsp := @ones_splice m n hmn'
      have hns : splice ((ones m n).map (iv .i64)) m (List.replicate (min m (n - m)) (iv .i64 1)) = (ones (m + min m (n - m)) n).map (iv .i64) := by
        rw [← hsp, List.take_replicate, Nat.min_comm]
        unfold splice
        simp
      have HNS := hid hns
      clear hsp hns
      go_region_law (refine step_copy_splice rfl (.tmp 41) (.tmp 44) 22 22 rfl 3 Tryz.underlying22 sizeInt (some ⟨w.heap.size, m, none⟩) (some ⟨w.heap.size, 0, none⟩) (n - m) (n - m) m n (by simp [Act.eval, Act.put]; omega) (by simp [Act.eval, Act.put]) w.heap.size m _ _ HH1.out _ HH2.out HH3.out HH4.out HH5.out w.heap.size w HH6.out (Nat.le_refl _) ?_; intro w4 hg4 hb4)
      all_goals
        have hlen : (List.replicate (min m (n - m)) (iv .i64 1)).length = min m (n - m) := List.length_replicate
        rw [HNS.out] at hg4
        have HG4 := hid hg4
        clear hg4
        have hwr : IntKind.i64.wrap ((m : Int) + ((min m (n - m) : Nat) : Int)) = ((m + min m (n - m) : Nat) : Int) := by rw [IntWalk.i64_in _ (by omega)]; omega
        go_simp
        refine ⟨?_, ?_⟩
        · (repeat apply Exists.intro)
          exact ⟨⟨m + min m (n - m), by rw [Int.natCast_add], by omega, by omega, HG4.out, below_grown hb4⟩, rfl⟩
        · simp [intOf, hwr]; omega
    · obtain rfl : m = n := by omega
      go_wp2_with fail
      go_ret
      refine ⟨_, rfl, fun a e => by cases e; exact Nat.le_refl _, ?_, hg⟩
      have := hr.rd0 (by rw [ones_len hmn']; omega)
      rw [ones_len hmn'] at this
      have e : ones m m = List.replicate m 1 := by unfold ones; simp
      rwa [e] at this

theorem points_any (n : Nat) (hn1 : 1 ≤ n) (hn : n ≤ 1000) (x : Int) (hx : x = (n : Int)) (w : World) :
    Calls Tryz.prog 144 #[.int .i64 x] w fun e w' => ∃ p, e = .returned (.slice p n n) ∧ Frs w p ∧ IRd w' .i64 p n n (List.replicate n 1) ∧ w.grownBy w' none := by
  subst hx
  have HR := hid fun (b c : Nat) (w : World) (h : IRd w .i64 (some ⟨b, 0, none⟩) 1 c [1]) => repeat_any n b 0 c hn1 hn w h
  have h1 := (IRow.made w 3 .i64 [1]).rd0 (by simp)
  have H1 : Hid (IRd (w.alloc (.cells #[.int .i64 1] 3)) .i64 (some ⟨w.heap.size, 0, none⟩) 1 1 [1]) := hid h1
  clear h1
  go_enter Tryz.func144, Tryz.ntmps144
  go_wp2_with (go_at_call 173; (with_reducible refine (HR.out _ _ _ H1.out).mono ?_); rintro e w' ⟨p, rfl, hf, hr, hg⟩)
  go_ret
  exact ⟨p, rfl, fun a e => by have := hf a e; simp at this; omega, hr, grown_trans (World.grownBy_alloc _ _ _) hg⟩
end Go.Proofs.YtiaonbofkgkdhaaGreatDoor

set_option linter.unusedVariables false
set_option linter.unusedSimpArgs false
namespace Go.Proofs.YtiaonbofkgkdhaaGreatDoor
open Go.RowKit _root_.Nm
/-- a node without its arguments -/
structure Hd where
  k : Int
  nm : ByteArray
  g : Bool
  num : List Nat
  den : List Nat
  pos : Int
inductive Tr where
  | node (h : Hd) (l : List Tr)
/-- the seven cells read as the tree; m bounds the depth -/
def ERd (w : World) : Nat → List Value → Tr → Prop
  | 0, _, _ => False
  | m + 1, cs, .node h l => ∃ (pn : Option Addr) (nn cn : Nat) (pd : Option Addr) (nd cd : Nat) (pa : Option Addr) (na ca : Nat),
      cs = [.int .i64 h.k, .string h.nm, .bool h.g, .slice pn nn cn, .slice pd nd cd, .slice pa na ca, .int .i64 h.pos] ∧ IRd w .u16 pn nn cn h.num ∧ IRd w .u16 pd nd cd h.den ∧
      (l.length = na ∧ na ≤ ca ∧ ca ≤ 9223372036854775807 ∧ h.nm.size ≤ maxLen) ∧
      ∀ i (hi : i < l.length), ∃ b o cs', pa = some ⟨b, o, none⟩ ∧ cs'.length = 7 ∧ (∀ j (hj : j < cs'.length), w.cell? ⟨b, o + i * 7 + j, none⟩ = some cs'[j]) ∧ ERd w m cs' l[i]
theorem ERd.keep {w w' : World} (hg : w.grownBy w' none) : ∀ {m : Nat} {cs : List Value} {t : Tr}, ERd w m cs t → ERd w' m cs t
  | 0, _, _, h => h.elim
  | m + 1, cs, .node h l, ⟨pn, nn, cn, pd, nd, cd, pa, na, ca, h1, h2, h3, h4, h5⟩ => by
    refine ⟨pn, nn, cn, pd, nd, cd, pa, na, ca, h1, h2.keep hg, h3.keep hg, h4, fun i hi => ?_⟩
    obtain ⟨b, o, cs', k1, k2, k3, k4⟩ := h5 i hi
    exact ⟨b, o, cs', k1, k2, fun j hj => hg.cell (k3 j hj) (by simp), k4.keep hg⟩
theorem ERd.shape {w : World} : ∀ {m : Nat} {cs : List Value} {t : Tr}, ERd w m cs t → ∃ (k : Int) (nm : ByteArray) (g : Bool) (pn : Option Addr) (nn cn : Nat) (pd : Option Addr) (nd cd : Nat) (pa : Option Addr) (na ca : Nat) (pos : Int), cs = [.int .i64 k, .string nm, .bool g, .slice pn nn cn, .slice pd nd cd, .slice pa na ca, .int .i64 pos]
  | 0, _, _, h => h.elim
  | m + 1, cs, .node h l, ⟨pn, nn, cn, pd, nd, cd, pa, na, ca, h1, _⟩ => ⟨_, _, _, _, _, _, _, _, _, _, _, _, _, h1⟩
theorem seven {l : List Value} (h : l.length = 7) : ∃ a b c d e f g, l = [a, b, c, d, e, f, g] := by
  match l, h with
  | [a, b, c, d, e, f, g], _ => exact ⟨a, b, c, d, e, f, g, rfl⟩
theorem box7 {w : World} {G : Nat} {a b c d e f g : Value} {T : TypeId} (hb : w.heap[G]? = some (.cells #[a, b, c, d, e, f, g] T (0, 0))) :
    (w.cell? ⟨G, 0, none⟩ = some a ∧ w.cell? ⟨G, 1, none⟩ = some b ∧ w.cell? ⟨G, 2, none⟩ = some c ∧ w.cell? ⟨G, 3, none⟩ = some d ∧ w.cell? ⟨G, 4, none⟩ = some e ∧ w.cell? ⟨G, 5, none⟩ = some f ∧ w.cell? ⟨G, 6, none⟩ = some g) ∧
    w.frozen? ⟨G, 0, none⟩ = false ∧ w.frozen? ⟨G, 1, none⟩ = false ∧ w.frozen? ⟨G, 2, none⟩ = false ∧ w.frozen? ⟨G, 3, none⟩ = false ∧ w.frozen? ⟨G, 4, none⟩ = false ∧ w.frozen? ⟨G, 5, none⟩ = false ∧ w.frozen? ⟨G, 6, none⟩ = false := by
  have k := fun i => cell_of_row w G i _ _ _ hb
  have k0 := k 0
  have k1 := k 1
  have k2 := k 2
  have k3 := k 3
  have k4 := k 4
  have k5 := k 5
  have k6 := k 6
  simp at k0 k1 k2 k3 k4 k5 k6
  have f := fun i => frozen_of_row w G i _ _ hb
  exact ⟨⟨k0, k1, k2, k3, k4, k5, k6⟩, f 0, f 1, f 2, f 3, f 4, f 5, f 6⟩
def zeroE (T : TypeId) : Obj := .cells #[.int .i64 0, .string ⟨#[]⟩, .bool false, .slice none 0 0, .slice none 0 0, .slice none 0 0, .int .i64 0] T (0, 0)

set_option maxHeartbeats 8000000 in
set_option maxRecDepth 100000 in
theorem count_any : ∀ (m : Nat) (cs : List Value) (t : Tr) (w : World), ERd w m cs t → Calls Tryz.prog 13 #[.agg cs.toArray] w fun e w' => (∃ z, e = .returned (.int .i64 z)) ∧ w.grownBy w' none
  | 0, _, _, _, h => h.elim
  | m + 1, cs, .node h l, w, hE => by
    have IH := hid (count_any m)
    obtain ⟨pn, nn, cn, pd, nd, cd, pa, na, ca, rfl, hn, hd, ⟨hla, hac, hca, hnm⟩, hargs⟩ := hE
    have HX := hid hargs
    clear hargs hn hd
    have HA := hid (World.grownBy_alloc w (.cells #[.int .i64 h.k, .string h.nm, .bool h.g, .slice pn nn cn, .slice pd nd cd, .slice pa na ca, .int .i64 h.pos] 43 (0, 0)) none)
    go_enter Tryz.func13, Tryz.ntmps13
    go_wp2_with fail
    go_loopw [3, 9] (fun z x wr => ∃ k : Nat, k ≤ na ∧ (∃ y, z = .int .i64 y) ∧ x = .int .i64 k ∧ w.grownBy wr none) (fun z x _ => na - (intOf x).toNat)
    case atStart => exact ⟨0, Nat.zero_le _, ⟨_, rfl⟩, rfl, HA.out⟩
    case round =>
      obtain ⟨k, hk, ⟨y, rfl⟩, rfl, hg⟩ := hrel
      by_cases hlt : k < na
      · obtain ⟨b, o, cs', rfl, h7, hc, hE⟩ := HX.out k (by omega)
        obtain ⟨e1, e2, e3, pn', nn', cn', pd', nd', cd', pa', na', ca', e7, rfl⟩ := hE.shape
        have c0 := hg.cell (hc 0 (by simp)) (by simp)
        have c1 := hg.cell (hc 1 (by simp)) (by simp)
        have c2 := hg.cell (hc 2 (by simp)) (by simp)
        have c3 := hg.cell (hc 3 (by simp)) (by simp)
        have c4 := hg.cell (hc 4 (by simp)) (by simp)
        have c5 := hg.cell (hc 5 (by simp)) (by simp)
        have c6 := hg.cell (hc 6 (by simp)) (by simp)
        simp only [List.getElem_cons_zero, List.getElem_cons_succ, Nat.add_zero] at c0 c1 c2 c3 c4 c5 c6
        have HE := hid (ERd.keep (grown_trans hg (World.grownBy_alloc wr (.cells #[.int .i64 e1, .string e2, .bool e3, .slice pn' nn' cn', .slice pd' nd' cd', .slice pa' na' ca', .int .i64 e7] 43 (0, 0)) none)) hE)
        clear hc hE h7
        obtain ⟨⟨k0, k1, k2, k3, k4, k5, k6⟩, f0, f1, f2, f3, f4, f5, f6⟩ := box7 (blk0 wr (zeroE 43))
        unfold zeroE at k0 k1 k2 k3 k4 k5 k6 f0 f1 f2 f3 f4 f5 f6
        go_wp2_with (go_at_call 13; refine (IH.out _ _ _ HE.out).mono ?_; rintro e w2 ⟨⟨y2, rfl⟩, hg2⟩)
        exact ⟨⟨k + 1, by omega, ⟨_, rfl⟩, by go_num, grown_trans hg (grown_trans (World.grownBy_alloc _ _ none) hg2)⟩, by simp [intOf]; omega⟩
      · obtain rfl : k = na := by omega
        go_wp2_with fail
        go_ret
        exact ⟨⟨_, rfl⟩, hg⟩
end Go.Proofs.YtiaonbofkgkdhaaGreatDoor

set_option linter.unusedVariables false
set_option linter.unusedSimpArgs false
namespace Go.Proofs.YtiaonbofkgkdhaaGreatDoor
open Go.RowKit _root_.Nm
/-- the depth, as the machine counts -/
def depF : Nat → Tr → Int
  | 0, _ => 0
  | m + 1, .node _ l => wrap64 ((l.map (depF m)).foldl max 0 + 1)
def most (m : Nat) (l : List Tr) : Int := (l.map (depF m)).foldl max 0
theorem most_succ (m : Nat) (l : List Tr) {k : Nat} (hk : k < l.length) : most m (l.take (k + 1)) = max (most m (l.take k)) (depF m l[k]) := by
  unfold most
  rw [List.take_add_one, List.map_append, List.foldl_append, List.getElem?_eq_getElem hk]
  rfl
theorem depF_succ (m : Nat) (h : Hd) (l : List Tr) : depF (m + 1) (.node h l) = wrap64 (most m l + 1) := rfl
set_option maxHeartbeats 8000000 in
set_option maxRecDepth 100000 in
theorem rdepth_any : ∀ (m : Nat) (cs : List Value) (t : Tr) (w : World), ERd w m cs t → Calls Tryz.prog 65 #[.agg cs.toArray] w fun e w' => e = .returned (.int .i64 (depF m t)) ∧ w.grownBy w' none
  | 0, _, _, _, h => h.elim
  | m + 1, cs, .node h l, w, hE => by
    have IH := hid (rdepth_any m)
    obtain ⟨pn, nn, cn, pd, nd, cd, pa, na, ca, rfl, hn, hd, ⟨hla, hac, hca, hnm⟩, hargs⟩ := hE
    have HX := hid hargs
    clear hargs hn hd
    have HA := hid (World.grownBy_alloc w (.cells #[.int .i64 h.k, .string h.nm, .bool h.g, .slice pn nn cn, .slice pd nd cd, .slice pa na ca, .int .i64 h.pos] 43 (0, 0)) none)
    go_enter Tryz.func65, Tryz.ntmps65
    go_wp2_with fail
    go_loopw [3, 9] (fun z x wr => ∃ k : Nat, k ≤ na ∧ z = .int .i64 (most m (l.take k)) ∧ x = .int .i64 k ∧ w.grownBy wr none) (fun z x _ => na - (intOf x).toNat)
    case atStart => exact ⟨0, Nat.zero_le _, rfl, rfl, HA.out⟩
    case round =>
      obtain ⟨k, hk, rfl, rfl, hg⟩ := hrel
      by_cases hlt : k < na
      · obtain ⟨b, o, cs', rfl, h7, hc, hE⟩ := HX.out k (by omega)
        obtain ⟨e1, e2, e3, pn', nn', cn', pd', nd', cd', pa', na', ca', e7, rfl⟩ := hE.shape
        have c0 := hg.cell (hc 0 (by simp)) (by simp)
        have c1 := hg.cell (hc 1 (by simp)) (by simp)
        have c2 := hg.cell (hc 2 (by simp)) (by simp)
        have c3 := hg.cell (hc 3 (by simp)) (by simp)
        have c4 := hg.cell (hc 4 (by simp)) (by simp)
        have c5 := hg.cell (hc 5 (by simp)) (by simp)
        have c6 := hg.cell (hc 6 (by simp)) (by simp)
        simp only [List.getElem_cons_zero, List.getElem_cons_succ, Nat.add_zero] at c0 c1 c2 c3 c4 c5 c6
        have HE := hid (ERd.keep (grown_trans hg (World.grownBy_alloc wr (.cells #[.int .i64 e1, .string e2, .bool e3, .slice pn' nn' cn', .slice pd' nd' cd', .slice pa' na' ca', .int .i64 e7] 43 (0, 0)) none)) hE)
        clear hc hE h7
        obtain ⟨⟨k0, k1, k2, k3, k4, k5, k6⟩, f0, f1, f2, f3, f4, f5, f6⟩ := box7 (blk0 wr (zeroE 43))
        unfold zeroE at k0 k1 k2 k3 k4 k5 k6 f0 f1 f2 f3 f4 f5 f6
        go_wp2_with (go_at_call 65; refine (IH.out _ _ _ HE.out).mono ?_; rintro e w2 ⟨rfl, hg2⟩)
        exact ⟨⟨k + 1, by omega, by rw [most_succ m l (by omega)]; congr 1; rw [Int.max_def]; split <;> split <;> omega, by go_num, grown_trans hg (grown_trans (World.grownBy_alloc _ _ none) hg2)⟩, by simp [intOf]; omega⟩
      · obtain rfl : k = na := by omega
        go_wp2_with fail
        go_ret
        exact ⟨by rw [depF_succ, show most m l = most m (l.take k) by rw [List.take_of_length_le (by omega)]]; rfl, hg⟩
end Go.Proofs.YtiaonbofkgkdhaaGreatDoor

set_option linter.unusedVariables false
set_option linter.unusedSimpArgs false
namespace Nm
open Go Go.RowKit

/-- the address a is the head of elements of k cells that read as l -/
def SCel (w : World) (k : Nat) (a : Option Addr) (l : List (List Value)) : Prop :=
  ∀ i (h : i < l.length) j (hj : j < (l[i]).length), ∃ b o, a = some ⟨b, o, none⟩ ∧ w.cell? ⟨b, o + i * k + j, none⟩ = some (l[i])[j]
/-- .slice a n c is a slice of structs of k cells that reads as l -/
structure SRd (w : World) (k : Nat) (a : Option Addr) (n c : Nat) (l : List (List Value)) : Prop where
  len : l.length = n
  each : ∀ r ∈ l, r.length = k
  cap : n ≤ c
  max : c ≤ 9223372036854775807
  cel : SCel w k a l
section
variable {w w' : World} {k : Nat} {a : Option Addr} {n c : Nat} {l : List (List Value)}
theorem SRd.kept (h : SRd w k a n c l) {row : Option Nat} (hg : w.grownBy w' row) (hne : row = none ∨ ∀ p, a = some p → some p.block ≠ row) : SRd w' k a n c l := by
  refine ⟨h.len, h.each, h.cap, h.max, fun i hi j hj => ?_⟩
  obtain ⟨b, o, rfl, hc⟩ := h.cel i hi j hj
  refine ⟨b, o, rfl, hg.cell hc ?_⟩
  rcases hne with rfl | hne
  · simp
  · exact hne ⟨b, o, none⟩ rfl
theorem SRd.keep (h : SRd w k a n c l) (hg : w.grownBy w' none) : SRd w' k a n c l := h.kept hg (.inl rfl)
theorem SRd.nil (w : World) (k : Nat) : SRd w k none 0 0 [] := ⟨rfl, by simp, Nat.le_refl _, by omega, fun i h => by simp at h⟩
/-- the cells of one element -/
theorem SRd.at (h : SRd w k a n c l) (hk : 0 < k) {i : Nat} (hi : i < l.length) : ∃ b o, a = some ⟨b, o, none⟩ ∧ ∀ j (hj : j < (l[i]).length), w.cell? ⟨b, o + i * k + j, none⟩ = some (l[i])[j] := by
  have hl := h.each l[i] (List.getElem_mem hi)
  obtain ⟨b, o, rfl, _⟩ := h.cel i hi 0 (by omega)
  refine ⟨b, o, rfl, fun j hj => ?_⟩
  obtain ⟨b', o', e, hc⟩ := h.cel i hi j hj
  cases e
  exact hc
end
end Nm

set_option linter.unusedVariables false
set_option linter.unusedSimpArgs false
namespace Nm
open Go Go.RowKit

/-- .slice a n c is nil, or the head of a row of the call's own, from block base on, whose first n elements of k cells are l -/
def SOwn (w : World) (base : Nat) (e : TypeId) (k : Nat) (a : Option Addr) (n c : Nat) (l : List (List Value)) : Prop :=
  l.length = n ∧ (∀ r ∈ l, r.length = k) ∧ w.ownsRow base e k (.slice a n c) n l.flatten

theorem flatten_get {k : Nat} : ∀ {l : List (List Value)} (h : ∀ r ∈ l, r.length = k) (i : Nat) (hi : i < l.length) (j : Nat) (hj : j < (l[i]).length), l.flatten[i * k + j]? = some (l[i])[j]
  | r :: l, h, 0, hi, j, hj => by
    simp only [List.getElem_cons_zero] at hj ⊢
    rw [List.flatten_cons, Nat.zero_mul, Nat.zero_add, List.getElem?_append_left hj]
    simp
  | r :: l, h, i + 1, hi, j, hj => by
    simp only [List.getElem_cons_succ] at hj ⊢
    have hr := h r (by simp)
    rw [List.flatten_cons, List.getElem?_append_right (by rw [hr, Nat.add_mul]; omega), hr]
    have ih := flatten_get (fun r hr => h r (by simp [hr])) i (by simpa using hi) j hj
    rw [show (i + 1) * k + j - k = i * k + j by rw [Nat.add_mul]; omega]
    exact ih

section
variable {w w' : World} {base : Nat} {e : TypeId} {k : Nat} {a : Option Addr} {n c : Nat} {l : List (List Value)}
theorem SOwn.nil (w : World) (base : Nat) (e : TypeId) (k : Nat) : SOwn w base e k none 0 0 [] := ⟨rfl, by simp, World.ownsRow_nil w base e k⟩
theorem SOwn.rd (h : SOwn w base e k a n c l) : SRd w k a n c l := by
  obtain ⟨hl, he, h1, h2 | ⟨g, cap, cur, hv, hb, hg, hn, hm, hs, ht⟩⟩ := h
  · obtain ⟨hv, rfl⟩ := h2
    simp only [Value.slice.injEq, true_and] at hv
    obtain ⟨rfl, rfl⟩ := hv
    obtain rfl : l = [] := List.eq_nil_of_length_eq_zero hl
    exact SRd.nil w k
  · simp only [Value.slice.injEq, true_and] at hv
    obtain ⟨rfl, rfl⟩ := hv
    refine ⟨hl, he, hn, by unfold maxLen at hm; omega, fun i hi j hj => ⟨g, 0, rfl, ?_⟩⟩
    have h3 := World.ownsRow.cells (w := w) (base := base) (e := e) (size := k) (v := .slice (some ⟨g, 0, none⟩) n c) (n := n) (xs := l.flatten) ⟨h1, .inr ⟨g, c, cur, rfl, hb, hg, hn, hm, hs, ht⟩⟩ (g := g) rfl (i * k + j) _ (flatten_get he i hi j hj)
    rw [add_addr] at h3
    rw [Nat.zero_add] at h3
    rw [Nat.zero_add]
    exact h3
theorem SOwn.lt (h : SOwn w base e k a n c l) : ∀ p, a = some p → base ≤ p.block ∧ p.block < w.heap.size := fun p hp => by
  subst hp
  exact h.2.2.lt p.block rfl
theorem SOwn.kept (h : SOwn w base e k a n c l) {row : Option Nat} (hg : w.grownBy w' row) (hne : row = none ∨ ∀ p, a = some p → some p.block ≠ row) : SOwn w' base e k a n c l := by
  refine ⟨h.1, h.2.1, h.2.2.kept hg ?_⟩
  cases a with
  | none => exact .inl rfl
  | some p =>
    rcases hne with rfl | hne
    · exact .inr (by simp [Value.ownBlock])
    · exact .inr (hne p rfl)
theorem SOwn.keep (h : SOwn w base e k a n c l) (hg : w.grownBy w' none) : SOwn w' base e k a n c l := h.kept hg (.inl rfl)
theorem SOwn.alloc (h : SOwn w base e k a n c l) (o : Obj) : SOwn (w.alloc o) base e k a n c l := ⟨h.1, h.2.1, h.2.2.alloc o⟩
end

/-- a new slice of one struct -/
theorem one_srd (w : World) (e : TypeId) (k : Nat) (r : List Value) (hr : r.length = k) (b : Nat) (hb : b = w.heap.size) : SRd (w.alloc (.cells r.toArray e)) k (some ⟨b, 0, none⟩) 1 1 [r] := by
  subst hb
  refine ⟨rfl, by simpa using hr, Nat.le_refl _, by omega, fun i hi j hj => ⟨w.heap.size, 0, rfl, ?_⟩⟩
  simp only [List.length_cons, List.length_nil, Nat.zero_add, Nat.lt_one_iff] at hi
  subst hi
  simp only [List.getElem_cons_zero] at hj ⊢
  rw [cell_of_row _ w.heap.size (0 + 0 * k + j) _ _ _ (heap_alloc_new w _)]
  simp [hj]

section
variable {P : Program} {ops : Array Oper} {rest : List Oper} {o : Oper} {a : Act} {Q : Exit → Act → World → Prop}
/-- append of one struct, a new slice .slice sp 1 c', to a slice of the call's own -/
theorem wls_append (w : World) (hgd : o.guard = none) (s x : Operand) (t : TypeId)
    (ho : o.op = .call { callee := .builtin .append, args := #[s, x], argTypes := #[t, t] })
    (e : TypeId) (k : Nat) (z : Value) (bytes : Nat) (h1 : P.underlying t = some (.slice e)) (h2 : (P.info? e).map (fun i => (i.zero, i.size, i.bytes)) = some (some z, k, bytes)) (hz : z.cells.size = k) (hk : 0 < k)
    (base : Nat) (p : Option Addr) (n c : Nat) (l : List (List Value)) (hs : a.eval s = .slice p n c) (hown : SOwn w base e k p n c l)
    (sp : Option Addr) (c' : Nat) (r : List Value) (hx : a.eval x = .slice sp 1 c') (hrd : SRd w k sp 1 c' [r]) (h1c : ∀ u ∈ r, u.oneCell' = true)
    (b1 : n + 1 ≤ 9223372036854775807) (b2 : (n + 1) * bytes ≤ 140737488355328) (w0 : World) (hg0 : w0.grownBy w none) (hb0 : w0.heap.size ≤ base) (hbase : base ≤ w.heap.size)
    (hK : ∀ p' c2 w', SOwn w' base e k p' (n + 1) c2 (l ++ [r]) → w0.grownBy w' none → (∀ G O, w.heap[G]? = some O → (∀ q, p = some q → q.block ≠ G) → w'.heap[G]? = some O) → wpList P ops Q rest (a.put o.dst (.slice p' (n + 1) c2)) w') : wpList P ops Q (o :: rest) a w := by
  obtain ⟨i, hi, hz0, hz1, hz2⟩ := info_parts h2
  subst hz2
  have hrk : r.length = k := hrd.each r (by simp)
  obtain ⟨b, o', rfl, hc⟩ := hrd.at hk (i := 0) (by simp)
  refine wpList_append_own w hgd s x t ho base e i z k i.bytes h1 hi hz0 hz1 rfl hz hk _ n l.flatten hs hown.2.2 ⟨b, o', none⟩ 1 c' r hx (by simpa using hrk) ?_ h1c (by unfold maxLen; omega) b2 hbase ?_
  · intro j u hu
    obtain ⟨hj, rfl⟩ := List.getElem?_eq_some_iff.1 hu
    have := hc j (by simpa using hj)
    rw [add_addr]
    simpa using this
  · intro v' w' hown' hgr _
    obtain ⟨hl, h3⟩ := hown'
    have hv' : ∃ p' c2, v' = .slice p' (n + 1) c2 := by
      rcases h3 with ⟨rfl, h4⟩ | ⟨g, cap, cur, rfl, _⟩
      · exact ⟨none, 0, by rw [h4]⟩
      · exact ⟨_, _, rfl⟩
    obtain ⟨p', c2, rfl⟩ := hv'
    refine hK p' c2 w' ⟨by simp [hown.1], ?_, by simpa using ⟨hl, h3⟩⟩ (grown_new hg0 hgr fun g hg => ?_) (fun G O hG hne => (hgr.block G (lt_of_block hG) ?_).trans hG)
    · intro q hq
      rcases List.mem_append.1 hq with h | h
      · exact hown.2.1 q h
      · rw [List.mem_singleton.1 h]; exact hrk
    · cases p with
      | none => simp [Value.ownBlock] at hg
      | some q =>
        simp [Value.ownBlock] at hg
        have := (hown.lt q rfl).1
        omega
    · cases p with
      | none => simp [Value.ownBlock]
      | some q =>
        simp only [Value.ownBlock, ne_eq, Option.some.injEq]
        exact fun e => hne q rfl e.symm
end
end Nm

set_option linter.unusedVariables false
set_option linter.unusedSimpArgs false
namespace Go.Proofs.YtiaonbofkgkdhaaGreatDoor
open Go.RowKit _root_.Nm
open Classical in
/-- a name is added if it is new -/
noncomputable def add1 (l : List ByteArray) (s : ByteArray) : List ByteArray := if s ∈ l then l else l ++ [s]
theorem add1_old {l : List ByteArray} {s : ByteArray} (h : s ∈ l) : add1 l s = l := if_pos h
theorem add1_new {l : List ByteArray} {s : ByteArray} (h : ¬ s ∈ l) : add1 l s = l ++ [s] := if_neg h
theorem mem_add1 {l : List ByteArray} {s x : ByteArray} : x ∈ add1 l s ↔ x ∈ l ∨ x = s := by
  by_cases h : s ∈ l
  · rw [add1_old h]
    exact ⟨.inl, fun h' => h'.elim id fun e => e ▸ h⟩
  · rw [add1_new h]; simp
theorem mem_adds {xs l : List ByteArray} {x : ByteArray} : x ∈ xs.foldl add1 l ↔ x ∈ l ∨ x ∈ xs := by
  induction xs generalizing l with
  | nil => simp
  | cons a r ih => rw [List.foldl_cons, ih, mem_add1, List.mem_cons, or_assoc]
theorem adds_len (xs l : List ByteArray) : (xs.foldl add1 l).length ≤ l.length + xs.length := by
  induction xs generalizing l with
  | nil => simp
  | cons a r ih =>
    rw [List.foldl_cons]
    refine Nat.le_trans (ih _) ?_
    by_cases h : a ∈ l
    · rw [add1_old h]; simp
    · rw [add1_new h]; simp; omega
/-- adding a list whose repetitions have been left out -/
theorem adds_ded (l xs : List ByteArray) : (xs.foldl add1 []).foldl add1 l = xs.foldl add1 l := by
  have gen : ∀ (ys : List ByteArray), (ys.reverse.foldl add1 []).foldl add1 l = ys.reverse.foldl add1 l := by
    intro ys
    induction ys with
    | nil => rfl
    | cons a r ih =>
      rw [List.reverse_cons, List.foldl_append, List.foldl_append, List.foldl_cons, List.foldl_cons, List.foldl_nil, List.foldl_nil]
      by_cases h : a ∈ r.reverse.foldl add1 []
      · rw [add1_old h, ih, add1_old]
        exact mem_adds.2 (.inr ((mem_adds.1 h).elim (fun h => by simp at h) id))
      · rw [add1_new h, List.foldl_append, ih, List.foldl_cons, List.foldl_nil]
  have := gen xs.reverse
  rwa [List.reverse_reverse] at this
/-- the names of a tree from left to right -/
def preF : Nat → Tr → List ByteArray
  | 0, _ => []
  | m + 1, .node h l => (if h.k = 1 then [h.nm] else []) ++ (l.map (preF m)).flatten
noncomputable def ded (xs : List ByteArray) : List ByteArray := xs.foldl add1 []
theorem ded_len (xs : List ByteArray) : (ded xs).length ≤ xs.length := by
  have := adds_len xs []
  simpa [ded] using this
theorem bytes_eq {a b : ByteArray} : a.toList = b.toList ↔ a = b := by
  constructor
  · intro h
    rw [Lib.toList_data, Lib.toList_data] at h
    cases a; cases b
    rw [ByteArray.mk.injEq]
    exact Array.toList_inj.1 h
  · exact fun h => h ▸ rfl
/-- a slice of strings -/
def NRd (w : World) (p : Option Addr) (n c : Nat) (L : List ByteArray) : Prop := SRd w 1 p n c (L.map fun d => [.string d])
def NOwn (w : World) (base : Nat) (p : Option Addr) (n c : Nat) (L : List ByteArray) : Prop := SOwn w base 9 1 p n c (L.map fun d => [.string d])
theorem NRd.len {w : World} {p : Option Addr} {n c : Nat} {L : List ByteArray} (h : NRd w p n c L) : L.length = n := by
  have := SRd.len h
  simpa using this
theorem NRd.keep {w w' : World} {p : Option Addr} {n c : Nat} {L : List ByteArray} (h : NRd w p n c L) (hg : w.grownBy w' none) : NRd w' p n c L := SRd.keep h hg
theorem NRd.at1 {w : World} {p : Option Addr} {n c : Nat} {L : List ByteArray} (h : NRd w p n c L) {i : Nat} (hi : i < L.length) : ∃ b o, p = some ⟨b, o, none⟩ ∧ w.cell? ⟨b, o + i, none⟩ = some (.string L[i]) := by
  obtain ⟨b, o, hp, hc⟩ := SRd.at h (by decide) (i := i) (by simpa using hi)
  refine ⟨b, o, hp, ?_⟩
  have := hc 0 (by simp)
  simpa using this
end Go.Proofs.YtiaonbofkgkdhaaGreatDoor
