/-
  FcA FcO FcB, in one text.
-/
import Derived.Test.YtibjmibdboamcaaDoorProg
import Derived.Test.YtibjmibdboamcaaDoorZMem
import Derived.Test.YtibjmibdboamcaaDoorBox4
import Derived.Test.YtibjmibdboamcaaDoorOwn
import Derived.StillTailTactics
import Derived.Deep.DeepCutAuto
import Derived.IntWalk
import Derived.Deep.RegionHeld3
import Derived.Test.YtibjmibdboamcaaDoorDig
import Derived.Test.YtibjmibdboamcaaDoorRows
import Derived.WalkKit
import Derived.ProofKit
import Derived.OpenShut
import Derived.SliceStrings
import Derived.Test.YtibjmibdboamcaaDoorMrR

set_option linter.unusedVariables false
set_option linter.unusedSimpArgs false
namespace Go.Proofs.YtibjmibdboamcaaDoor
open Go.RowKit _root_.Nm
/-- the number of arguments of a fact -/
def arF (k : Int) : Nat := if k = 1 then 3 else if k = 2 then 4 else if k = 3 then 4 else if k = 4 then 4 else if k = 5 then 3 else if k = 6 then 4 else if k = 7 then 8 else if k = 8 then 2 else if k = 9 then 4 else 0
theorem arF_le (k : Int) : arF k ≤ 8 := by
  unfold arF
  repeat' split
  all_goals omega
set_option maxHeartbeats 8000000 in
set_option maxRecDepth 100000 in
theorem shape_any (k : Int) (w : World) : Calls Tryd.prog 20 #[.int .i64 k] w fun e w' => (∃ s : ByteArray, e = .returned (.tuple #[.string s, .int .i64 (arF k : Nat)])) ∧ w.grownBy w' none := by
  unfold arF
  by_cases h1 : k = 1
  · subst h1
    go_enter Tryd.func20, Tryd.ntmps20
    go_wp2_with fail
    go_ret2
    exact ⟨⟨_, rfl⟩, grown_refl _ _⟩
  by_cases h2 : k = 2
  · subst h2
    go_enter Tryd.func20, Tryd.ntmps20
    go_wp2_with fail
    go_ret2
    exact ⟨⟨_, rfl⟩, grown_refl _ _⟩
  by_cases h3 : k = 3
  · subst h3
    go_enter Tryd.func20, Tryd.ntmps20
    go_wp2_with fail
    go_ret2
    exact ⟨⟨_, rfl⟩, grown_refl _ _⟩
  by_cases h4 : k = 4
  · subst h4
    go_enter Tryd.func20, Tryd.ntmps20
    go_wp2_with fail
    go_ret2
    exact ⟨⟨_, rfl⟩, grown_refl _ _⟩
  by_cases h5 : k = 5
  · subst h5
    go_enter Tryd.func20, Tryd.ntmps20
    go_wp2_with fail
    go_ret2
    exact ⟨⟨_, rfl⟩, grown_refl _ _⟩
  by_cases h6 : k = 6
  · subst h6
    go_enter Tryd.func20, Tryd.ntmps20
    go_wp2_with fail
    go_ret2
    exact ⟨⟨_, rfl⟩, grown_refl _ _⟩
  by_cases h7 : k = 7
  · subst h7
    go_enter Tryd.func20, Tryd.ntmps20
    go_wp2_with fail
    go_ret2
    exact ⟨⟨_, rfl⟩, grown_refl _ _⟩
  by_cases h8 : k = 8
  · subst h8
    go_enter Tryd.func20, Tryd.ntmps20
    go_wp2_with fail
    go_ret2
    exact ⟨⟨_, rfl⟩, grown_refl _ _⟩
  by_cases h9 : k = 9
  · subst h9
    go_enter Tryd.func20, Tryd.ntmps20
    go_wp2_with fail
    go_ret2
    exact ⟨⟨_, rfl⟩, grown_refl _ _⟩
  go_enter Tryd.func20, Tryd.ntmps20
  go_wp2_with fail
  go_ret2
  exact ⟨⟨_, by simp [h1, h2, h3, h4, h5, h6, h7, h8, h9]; rfl⟩, grown_refl _ _⟩
set_option maxHeartbeats 4000000 in
set_option maxRecDepth 100000 in
theorem arity_any (k : Int) (w : World) : Calls Tryd.prog 6 #[.int .i64 k] w fun e w' => e = .returned (.int .i64 (arF k : Nat)) ∧ w.grownBy w' none := by
  have H := hid fun w => shape_any k w
  generalize arF k = a at *
  go_enter Tryd.func6, Tryd.ntmps6
  go_wp2_with (go_at_call 20; refine (H.out _).mono ?_; rintro e w1 ⟨⟨s, rfl⟩, hg⟩)
  go_ret
  exact ⟨rfl, hg⟩
set_option maxHeartbeats 8000000 in
set_option maxRecDepth 100000 in
theorem rArity_any (k : Int) (w : World) : Calls Tryd.prog 7 #[.int .i64 k] w fun e w' => e = .returned (.int .i64 (arF k : Nat)) ∧ w.grownBy w' none := by
  unfold arF
  by_cases h1 : k = 1
  · subst h1
    go_enter Tryd.func7, Tryd.ntmps7
    go_wp2_with fail
    go_ret
    exact ⟨by simp, grown_refl _ _⟩
  by_cases h2 : k = 2
  · subst h2
    go_enter Tryd.func7, Tryd.ntmps7
    go_wp2_with fail
    go_ret
    exact ⟨by simp, grown_refl _ _⟩
  by_cases h3 : k = 3
  · subst h3
    go_enter Tryd.func7, Tryd.ntmps7
    go_wp2_with fail
    go_ret
    exact ⟨by simp, grown_refl _ _⟩
  by_cases h4 : k = 4
  · subst h4
    go_enter Tryd.func7, Tryd.ntmps7
    go_wp2_with fail
    go_ret
    exact ⟨by simp, grown_refl _ _⟩
  by_cases h5 : k = 5
  · subst h5
    go_enter Tryd.func7, Tryd.ntmps7
    go_wp2_with fail
    go_ret
    exact ⟨by simp, grown_refl _ _⟩
  by_cases h6 : k = 6
  · subst h6
    go_enter Tryd.func7, Tryd.ntmps7
    go_wp2_with fail
    go_ret
    exact ⟨by simp, grown_refl _ _⟩
  by_cases h7 : k = 7
  · subst h7
    go_enter Tryd.func7, Tryd.ntmps7
    go_wp2_with fail
    go_ret
    exact ⟨by simp, grown_refl _ _⟩
  by_cases h8 : k = 8
  · subst h8
    go_enter Tryd.func7, Tryd.ntmps7
    go_wp2_with fail
    go_ret
    exact ⟨by simp, grown_refl _ _⟩
  by_cases h9 : k = 9
  · subst h9
    go_enter Tryd.func7, Tryd.ntmps7
    go_wp2_with fail
    go_ret
    exact ⟨by simp, grown_refl _ _⟩
  go_enter Tryd.func7, Tryd.ntmps7
  go_wp2_with fail
  go_ret
  exact ⟨by simp [h1, h2, h3, h4, h5, h6, h7, h8, h9], grown_refl _ _⟩
set_option maxHeartbeats 8000000 in
set_option maxRecDepth 100000 in
theorem within_any (p : Option Addr) (n c : Nat) (zs : List Int) (pt : Int) (w : World) (h : ZRd w .i64 p n c zs) (b : Bool) (hb : b = true ↔ ∀ i (hi : i < zs.length), 0 ≤ zs[i] ∧ zs[i] < pt) :
    Calls Tryd.prog 21 #[.slice p n c, .int .i64 pt] w fun e w' => e = .returned (.bool b) ∧ w.grownBy w' none := by
  have hl := h.len
  have hc := h.cap
  have hm := h.max
  have H := hid h
  have HB := hid hb
  clear h hb
  go_enter Tryd.func21, Tryd.ntmps21
  go_wp2_with fail
  go_loopw [9] (fun x wr => ∃ k : Nat, k ≤ n ∧ x = .int .i64 k ∧ w.grownBy wr none ∧ ∀ i (hi : i < zs.length), i < k → 0 ≤ zs[i] ∧ zs[i] < pt) (fun x _ => n - (intOf x).toNat)
  case atStart => exact ⟨0, Nat.zero_le _, rfl, grown_refl _ _, fun i _ h => absurd h (Nat.not_lt_zero i)⟩
  case round =>
    obtain ⟨k, hk, rfl, hg, hall⟩ := hrel
    have HALL := hid hall
    clear hall
    by_cases hlt : k < n
    · obtain ⟨bA, oA, rfl, c0⟩ := (H.out.keep hg).cel k (by omega)
      obtain ⟨z, hz⟩ : ∃ z, z = zs[k]'(by omega) := ⟨_, rfl⟩
      rw [← hz] at c0
      have HZ := hid hz
      clear hz
      by_cases h1 : z < 0
      · obtain rfl : b = false := by
          rw [← Bool.not_eq_true, HB.out]
          intro h9
          have := (h9 k (by omega)).1
          rw [← HZ.out] at this
          omega
        go_wp2_with fail
        go_ret
        exact ⟨rfl, hg⟩
      · by_cases h2 : pt ≤ z
        · obtain rfl : b = false := by
            rw [← Bool.not_eq_true, HB.out]
            intro h9
            have := (h9 k (by omega)).2
            rw [← HZ.out] at this
            omega
          go_wp2_with fail
          go_ret
          exact ⟨rfl, hg⟩
        · go_wp2_with fail
          refine ⟨⟨k + 1, by omega, by go_num, hg, fun i hi h => ?_⟩, by simp [intOf]; omega⟩
          rcases Nat.lt_or_eq_of_le (Nat.le_of_lt_succ h) with h | rfl
          · exact HALL.out i hi h
          · rw [← HZ.out]; omega
    · obtain rfl : k = n := by omega
      obtain rfl : b = true := HB.out.2 fun i hi => HALL.out i hi (by omega)
      go_wp2_with fail
      go_ret
      exact ⟨rfl, hg⟩
theorem box5 {w : World} {G : Nat} {a b c d e : Value} {T : TypeId} (hb : w.heap[G]? = some (.cells #[a, b, c, d, e] T (0, 0))) :
    (w.cell? ⟨G, 0, none⟩ = some a ∧ w.cell? ⟨G, 1, none⟩ = some b ∧ w.cell? ⟨G, 2, none⟩ = some c ∧ w.cell? ⟨G, 3, none⟩ = some d ∧ w.cell? ⟨G, 4, none⟩ = some e) ∧ (∀ o, w.frozen? ⟨G, o, none⟩ = false) := by
  have k := fun i => cell_of_row w G i _ _ _ hb
  have k0 := k 0; have k1 := k 1; have k2 := k 2; have k3 := k 3; have k4 := k 4
  simp at k0 k1 k2 k3 k4
  exact ⟨⟨k0, k1, k2, k3, k4⟩, fun o => frozen_of_row w G o _ _ hb⟩
theorem box2n {w : World} {G : Nat} {a b : Value} {T : TypeId} (hb : w.heap[G]? = some (.cells #[a, b] T (0, 0))) :
    (w.cell? ⟨G, 0, none⟩ = some a ∧ w.cell? ⟨G, 1, none⟩ = some b) ∧ (∀ o, w.frozen? ⟨G, o, none⟩ = false) := by
  have k := fun i => cell_of_row w G i _ _ _ hb
  have k0 := k 0; have k1 := k 1
  simp at k0 k1
  exact ⟨⟨k0, k1⟩, fun o => frozen_of_row w G o _ _ hb⟩
theorem box3n {w : World} {G : Nat} {a b c : Value} {T : TypeId} (hb : w.heap[G]? = some (.cells #[a, b, c] T (0, 0))) :
    w.cell? ⟨G, 0, none⟩ = some a ∧ w.cell? ⟨G, 1, none⟩ = some b ∧ w.cell? ⟨G, 2, none⟩ = some c := by
  have k := fun i => cell_of_row w G i _ _ _ hb
  have k0 := k 0; have k1 := k 1; have k2 := k 2
  simp at k0 k1 k2
  exact ⟨k0, k1, k2⟩
/-- whether the Ratio of something that has one (z), or none, is right, as both sides find it -/
structure RatF (w : World) (z : Bool) (g : Bool) (p1 : Option Addr) (n1 c1 : Nat) (p2 : Option Addr) (n2 c2 : Nat) (R : Bool) : Prop where
  right : z = true → ∀ W, w.grownBy W none → Calls Tryd.prog 31 #[.agg #[.bool g, .slice p1 n1 c1, .slice p2 n2 c2]] W fun e w' => e = .returned (.bool R) ∧ W.grownBy w' none
  rright : z = true → ∀ W, w.grownBy W none → Calls Tryd.prog 23 #[.agg #[.bool g, .slice p1 n1 c1, .slice p2 n2 c2]] W fun e w' => e = .returned (.bool R) ∧ W.grownBy w' none
  none : z = false → R = (!g && (decide (n1 = 0) && decide (n2 = 0)))
theorem RatF.keep {w w' : World} {z g : Bool} {p1 : Option Addr} {n1 c1 : Nat} {p2 : Option Addr} {n2 c2 : Nat} {R : Bool} (h : RatF w z g p1 n1 c1 p2 n2 c2 R) (hg : w.grownBy w' Option.none) : RatF w' z g p1 n1 c1 p2 n2 c2 R where
  right := fun hb W hW => h.right hb W (grown_trans hg hW)
  rright := fun hb W hW => h.rright hb W (grown_trans hg hW)
  none := h.none
set_option maxHeartbeats 4000000 in
set_option maxRecDepth 100000 in
theorem rNone14_any (g : Bool) (p q : Option Addr) (n c m d : Nat) (R : Bool) (hR : R = (!g && (decide (n = 0) && decide (m = 0)))) (w : World) :
    Calls Tryd.prog 24 #[.agg #[.bool g, .slice p n c, .slice q m d]] w fun e w' => e = .returned (.bool R) ∧ w.grownBy w' none := by
  subst hR
  have hW := World.grownBy_alloc w (.cells #[.bool g, .slice p n c, .slice q m d] 28 (0, 0)) none
  obtain ⟨k0, k1, k2⟩ := box3n (blk0 w (.cells #[.bool g, .slice p n c, .slice q m d] 28 (0, 0)))
  cases g
  · by_cases hn : n = 0
    · subst hn
      go_enter Tryd.func24, Tryd.ntmps24
      go_wp2_with fail
      go_ret
      have hm : ((m : Int) == 0) = decide (m = 0) := by rw [Bool.eq_iff_iff]; simp
      exact ⟨by simp [hm], hW⟩
    · have hz : ((n : Int) == 0) = false := by simpa using hn
      go_enter Tryd.func24, Tryd.ntmps24
      go_wp2_with fail
      go_ret
      exact ⟨by simp [hn], hW⟩
  · go_enter Tryd.func24, Tryd.ntmps24
    go_wp2_with fail
    go_ret
    exact ⟨by simp, hW⟩
set_option maxHeartbeats 8000000 in
set_option maxRecDepth 100000 in
theorem fRatio_any (k : Int) (pa : Option Addr) (na ca : Nat) (g : Bool) (p1 : Option Addr) (n1 c1 : Nat) (p2 : Option Addr) (n2 c2 : Nat) (R : Bool) (w : World) (hR : RatF w (decide (k = 9)) g p1 n1 c1 p2 n2 c2 R) :
    Calls Tryd.prog 22 #[.agg #[.int .i64 k, .slice pa na ca, .bool g, .slice p1 n1 c1, .slice p2 n2 c2]] w fun e w' => e = .returned (.bool R) ∧ w.grownBy w' none := by
  have hW := World.grownBy_alloc w (.cells #[.int .i64 k, .slice pa na ca, .bool g, .slice p1 n1 c1, .slice p2 n2 c2] 30 (0, 0)) none
  obtain ⟨⟨k0, k1, k2, k3, k4⟩, -⟩ := box5 (blk0 w (.cells #[.int .i64 k, .slice pa na ca, .bool g, .slice p1 n1 c1, .slice p2 n2 c2] 30 (0, 0)))
  by_cases hk : k = 9
  · subst hk
    have HR := hid (hR.right (by simp))
    clear hR
    go_enter Tryd.func22, Tryd.ntmps22
    go_upto_region 1 with fail
    generalize (w.alloc _) = w0 at *
    go_wp2_with (go_at_call 31; refine (HR.out _ hW).mono ?_; rintro e w1 ⟨rfl, hg⟩)
    go_ret
    exact ⟨rfl, grown_trans hW hg⟩
  · have hq : (k == 9) = false := by simpa using hk
    obtain rfl := hR.none (by simp [hk])
    clear hR hk
    have hm : ((n2 : Int) == 0) = decide (n2 = 0) := by rw [Bool.eq_iff_iff]; simp
    have HM := hid hm
    clear hm
    go_enter Tryd.func22, Tryd.ntmps22
    go_upto_region 1 with fail
    generalize (w.alloc _) = w0 at *
    have hW2 := World.grownBy_alloc w0 (.cells #[.bool g, .slice p1 n1 c1] 26 (0, 0)) none
    obtain ⟨⟨z0, z1⟩, fz⟩ := box2n (blk0 w0 (.cells #[.bool false, .slice none 0 0] 26 (0, 0)))
    have fz0 := fz 0; have fz1 := fz 1
    clear fz
    go_upto_region 4 with fail
    clear z0 z1 fz0 fz1
    obtain ⟨⟨b0, b1⟩, -⟩ := box2n (blk0 w0 (.cells #[.bool g, .slice p1 n1 c1] 26 (0, 0)))
    replace k0 := hW2.cell k0 (by simp); replace k1 := hW2.cell k1 (by simp); replace k2 := hW2.cell k2 (by simp); replace k3 := hW2.cell k3 (by simp); replace k4 := hW2.cell k4 (by simp)
    have HW := hid (grown_trans hW hW2)
    clear hW hW2
    generalize (w0.alloc _) = w1 at *
    generalize w0.heap.size = G1 at *
    cases g
    · by_cases hn : n1 = 0
      · subst hn
        go_wp2_with fail
        go_ret
        exact ⟨by simp [HM.out], HW.out⟩
      · have hz : ((n1 : Int) == 0) = false := by simpa using hn
        go_wp2_with fail
        go_ret
        exact ⟨by simp [hn], HW.out⟩
    · go_wp2_with fail
      go_ret
      exact ⟨by simp, HW.out⟩
/-- the error of a fact -/
def errF (k : Int) (n : Nat) (b R : Bool) : Int := if arF k = 0 then 8 else if n ≠ arF k then 1 else if b = false then 2 else if R = false then 1 else 0
set_option maxHeartbeats 16000000 in
set_option maxRecDepth 100000 in
theorem fRight_n (k : Int) (pa : Option Addr) (na ca : Nat) (g : Bool) (p1 : Option Addr) (n1 c1 : Nat) (p2 : Option Addr) (n2 c2 : Nat) (zs : List Int) (pt : Int) (b R : Bool) (w : World) (h : ZRd w .i64 pa na ca zs) (hb : b = true ↔ ∀ i (hi : i < zs.length), 0 ≤ zs[i] ∧ zs[i] < pt) (hR : RatF w (decide (k = 9)) g p1 n1 c1 p2 n2 c2 R) :
    Calls Tryd.prog 8 #[.agg #[.int .i64 k, .slice pa na ca, .bool g, .slice p1 n1 c1, .slice p2 n2 c2], .int .i64 pt] w fun e w' => e = .returned (.int .i64 (errF k na b R)) ∧ w.grownBy w' none := by
  have hW := World.grownBy_alloc w (.cells #[.int .i64 k, .slice pa na ca, .bool g, .slice p1 n1 c1, .slice p2 n2 c2] 30 (0, 0)) none
  obtain ⟨⟨k0, k1, k2, k3, k4⟩, -⟩ := box5 (blk0 w (.cells #[.int .i64 k, .slice pa na ca, .bool g, .slice p1 n1 c1, .slice p2 n2 c2] 30 (0, 0)))
  have HA := hid fun w => arity_any k w
  have HI := hid fun w' (hg : w.grownBy w' none) => within_any pa na ca zs pt w' (h.keep hg) b hb
  have HR := hid fun w' (hg : w.grownBy w' none) => fRatio_any k pa na ca g p1 n1 c1 p2 n2 c2 R w' (hR.keep hg)
  clear h hb hR
  unfold errF
  generalize arF k = a at *
  by_cases h0 : a = 0
  · subst h0
    go_enter Tryd.func8, Tryd.ntmps8
    go_upto_region 1 with fail
    generalize (w.alloc _) = w0 at *
    go_wp2_with (first | (go_at_call 6; refine (HA.out _).mono ?_; rintro e w1 ⟨rfl, hg⟩; replace hW := grown_trans hW hg; replace k0 := hg.cell k0 (by simp); replace k1 := hg.cell k1 (by simp); replace k2 := hg.cell k2 (by simp); replace k3 := hg.cell k3 (by simp); replace k4 := hg.cell k4 (by simp); clear hg) | (go_at_call 21; refine (HI.out _ hW).mono ?_; rintro e w1 ⟨rfl, hg⟩; replace hW := grown_trans hW hg; replace k0 := hg.cell k0 (by simp); replace k1 := hg.cell k1 (by simp); replace k2 := hg.cell k2 (by simp); replace k3 := hg.cell k3 (by simp); replace k4 := hg.cell k4 (by simp); clear hg) | (go_at_call 22; refine (HR.out _ hW).mono ?_; rintro e w1 ⟨rfl, hg⟩; replace hW := grown_trans hW hg; replace k0 := hg.cell k0 (by simp); replace k1 := hg.cell k1 (by simp); replace k2 := hg.cell k2 (by simp); replace k3 := hg.cell k3 (by simp); replace k4 := hg.cell k4 (by simp); clear hg))
    go_ret
    exact ⟨by simp, hW⟩
  · have hq0 : ((a : Int) == 0) = false := by simpa using h0
    rw [if_neg h0]
    by_cases h1 : na = a
    · subst h1
      rw [if_neg (by simp)]
      cases b
      · go_enter Tryd.func8, Tryd.ntmps8
        go_upto_region 1 with fail
        generalize (w.alloc _) = w0 at *
        go_wp2_with (first | (go_at_call 6; refine (HA.out _).mono ?_; rintro e w1 ⟨rfl, hg⟩; replace hW := grown_trans hW hg; replace k0 := hg.cell k0 (by simp); replace k1 := hg.cell k1 (by simp); replace k2 := hg.cell k2 (by simp); replace k3 := hg.cell k3 (by simp); replace k4 := hg.cell k4 (by simp); clear hg) | (go_at_call 21; refine (HI.out _ hW).mono ?_; rintro e w1 ⟨rfl, hg⟩; replace hW := grown_trans hW hg; replace k0 := hg.cell k0 (by simp); replace k1 := hg.cell k1 (by simp); replace k2 := hg.cell k2 (by simp); replace k3 := hg.cell k3 (by simp); replace k4 := hg.cell k4 (by simp); clear hg) | (go_at_call 22; refine (HR.out _ hW).mono ?_; rintro e w1 ⟨rfl, hg⟩; replace hW := grown_trans hW hg; replace k0 := hg.cell k0 (by simp); replace k1 := hg.cell k1 (by simp); replace k2 := hg.cell k2 (by simp); replace k3 := hg.cell k3 (by simp); replace k4 := hg.cell k4 (by simp); clear hg))
        go_ret
        exact ⟨by simp, hW⟩
      · cases R
        all_goals
          go_enter Tryd.func8, Tryd.ntmps8
          go_upto_region 1 with fail
          generalize (w.alloc _) = w0 at *
          go_wp2_with (first | (go_at_call 6; refine (HA.out _).mono ?_; rintro e w1 ⟨rfl, hg⟩; replace hW := grown_trans hW hg; replace k0 := hg.cell k0 (by simp); replace k1 := hg.cell k1 (by simp); replace k2 := hg.cell k2 (by simp); replace k3 := hg.cell k3 (by simp); replace k4 := hg.cell k4 (by simp); clear hg) | (go_at_call 21; refine (HI.out _ hW).mono ?_; rintro e w1 ⟨rfl, hg⟩; replace hW := grown_trans hW hg; replace k0 := hg.cell k0 (by simp); replace k1 := hg.cell k1 (by simp); replace k2 := hg.cell k2 (by simp); replace k3 := hg.cell k3 (by simp); replace k4 := hg.cell k4 (by simp); clear hg) | (go_at_call 22; refine (HR.out _ hW).mono ?_; rintro e w1 ⟨rfl, hg⟩; replace hW := grown_trans hW hg; replace k0 := hg.cell k0 (by simp); replace k1 := hg.cell k1 (by simp); replace k2 := hg.cell k2 (by simp); replace k3 := hg.cell k3 (by simp); replace k4 := hg.cell k4 (by simp); clear hg))
          go_ret
          exact ⟨by simp, hW⟩
    · have hq1 : ((na : Int) != (a : Int)) = true := by simp; omega
      rw [if_pos h1]
      go_enter Tryd.func8, Tryd.ntmps8
      go_upto_region 1 with fail
      generalize (w.alloc _) = w0 at *
      go_wp2_with (first | (go_at_call 6; refine (HA.out _).mono ?_; rintro e w1 ⟨rfl, hg⟩; replace hW := grown_trans hW hg; replace k0 := hg.cell k0 (by simp); replace k1 := hg.cell k1 (by simp); replace k2 := hg.cell k2 (by simp); replace k3 := hg.cell k3 (by simp); replace k4 := hg.cell k4 (by simp); clear hg) | (go_at_call 21; refine (HI.out _ hW).mono ?_; rintro e w1 ⟨rfl, hg⟩; replace hW := grown_trans hW hg; replace k0 := hg.cell k0 (by simp); replace k1 := hg.cell k1 (by simp); replace k2 := hg.cell k2 (by simp); replace k3 := hg.cell k3 (by simp); replace k4 := hg.cell k4 (by simp); clear hg) | (go_at_call 22; refine (HR.out _ hW).mono ?_; rintro e w1 ⟨rfl, hg⟩; replace hW := grown_trans hW hg; replace k0 := hg.cell k0 (by simp); replace k1 := hg.cell k1 (by simp); replace k2 := hg.cell k2 (by simp); replace k3 := hg.cell k3 (by simp); replace k4 := hg.cell k4 (by simp); clear hg))
      go_ret
      exact ⟨by simp, hW⟩
set_option maxHeartbeats 32000000 in
set_option maxRecDepth 100000 in
theorem rRight14_n (k : Int) (pa : Option Addr) (na ca : Nat) (g : Bool) (p1 : Option Addr) (n1 c1 : Nat) (p2 : Option Addr) (n2 c2 : Nat) (zs : List Int) (pt : Int) (b R : Bool) (w : World) (h : ZRd w .i64 pa na ca zs) (hb : b = true ↔ ∀ i (hi : i < zs.length), 0 ≤ zs[i] ∧ zs[i] < pt) (hR : RatF w (decide (k = 9)) g p1 n1 c1 p2 n2 c2 R) :
    Calls Tryd.prog 9 #[.agg #[.int .i64 k, .slice pa na ca, .bool g, .slice p1 n1 c1, .slice p2 n2 c2], .int .i64 pt] w fun e w' => e = .returned (.int .i64 (errF k na b R)) ∧ w.grownBy w' none := by
  have hl := h.len
  have hc := h.cap
  have hm := h.max
  have hW := World.grownBy_alloc w (.cells #[.int .i64 k, .slice pa na ca, .bool g, .slice p1 n1 c1, .slice p2 n2 c2] 30 (0, 0)) none
  obtain ⟨⟨k0, k1, k2, k3, k4⟩, -⟩ := box5 (blk0 w (.cells #[.int .i64 k, .slice pa na ca, .bool g, .slice p1 n1 c1, .slice p2 n2 c2] 30 (0, 0)))
  have HA := hid fun w => rArity_any k w
  have HZS := hid h
  have HB := hid hb
  have HRA := hid hR.rright
  have HRN := hid fun (hk : ¬ k = 9) w => rNone14_any g p1 p2 n1 c1 n2 c2 R (hR.none (by simp [hk])) w
  clear h hb hR
  unfold errF
  generalize arF k = a at *
  by_cases h0 : a = 0
  · subst h0
    go_enter Tryd.func9, Tryd.ntmps9
    go_upto_region 1 with fail
    generalize (w.alloc _) = w0 at *
    go_wp2_with (first | (go_at_call 7; refine (HA.out _).mono ?_; rintro e w1 ⟨rfl, hg⟩; replace hW := grown_trans hW hg; replace k0 := hg.cell k0 (by simp); replace k1 := hg.cell k1 (by simp); replace k2 := hg.cell k2 (by simp); replace k3 := hg.cell k3 (by simp); replace k4 := hg.cell k4 (by simp); clear hg))
    go_ret
    exact ⟨by simp, hW⟩
  · have hq0 : ((a : Int) == 0) = false := by simpa using h0
    rw [if_neg h0]
    by_cases h1 : na = a
    · subst h1
      rw [if_neg (by simp)]
      go_enter Tryd.func9, Tryd.ntmps9
      go_upto_region 1 with fail
      generalize (w.alloc _) = w0 at *
      go_upto_region 3 with (first | (go_at_call 7; refine (HA.out _).mono ?_; rintro e w1 ⟨rfl, hg⟩; replace hW := grown_trans hW hg; replace k0 := hg.cell k0 (by simp); replace k1 := hg.cell k1 (by simp); replace k2 := hg.cell k2 (by simp); replace k3 := hg.cell k3 (by simp); replace k4 := hg.cell k4 (by simp); clear hg))
      clear hq0 h0
      go_region_held3 (fun w' => w'.cell? ⟨w.heap.size, 0, none⟩ = some (.int .i64 k) ∧ w'.cell? ⟨w.heap.size, 1, none⟩ = some (.slice pa na ca) ∧ w'.cell? ⟨w.heap.size, 2, none⟩ = some (.bool g) ∧ w'.cell? ⟨w.heap.size, 3, none⟩ = some (.slice p1 n1 c1) ∧ w'.cell? ⟨w.heap.size, 4, none⟩ = some (.slice p2 n2 c2) ∧ w.grownBy w' none) ((try go_split_ands) <;> (repeat' apply And.intro) <;> (first | (with_reducible assumption) | (with_reducible refine (grown_drew _ none).cell ?_ (by simp); with_reducible assumption) | (with_reducible refine grown_trans ?_ (grown_drew _ none); with_reducible assumption))) (first | (go_at_call 7; (with_reducible refine (HA.out _).mono ?_); rintro e w1 ⟨rfl, hg⟩; (first | replace hW := grown_trans hW hg | replace hW := grown_trans (grown_trans hW (grown_drew _ none)) hg); replace k0 := hg.cell k0 (by simp); replace k1 := hg.cell k1 (by simp); replace k2 := hg.cell k2 (by simp); replace k3 := hg.cell k3 (by simp); replace k4 := hg.cell k4 (by simp); clear hg))
      go_wp2_with fail
      have HW2 := hid hW
      have K0 := hid k0
      have K1 := hid k1
      have K2 := hid k2
      have K3 := hid k3
      have K4 := hid k4
      clear hW k0 k1 k2 k3 k4
      go_loopw [21] (fun y wr => ∃ j : Nat, j ≤ na ∧ y = .int .i64 j ∧ w1.grownBy wr none ∧ ∀ i (hi : i < zs.length), i < j → 0 ≤ zs[i] ∧ zs[i] < pt) (fun y _ => na - (intOf y).toNat)
      case atStart => exact ⟨0, Nat.zero_le _, rfl, (by first | exact grown_refl _ _ | exact grown_drew _ _), fun i _ h => absurd h (Nat.not_lt_zero i)⟩
      case round =>
        obtain ⟨j, hj, rfl, hg, hall⟩ := hrel
        have HALL := hid hall
        clear hall
        by_cases hlt : j < na
        · obtain ⟨bA, oA, rfl, c0⟩ := (HZS.out.keep (grown_trans HW2.out hg)).cel j (by omega)
          obtain ⟨z, hz⟩ : ∃ z, z = zs[j]'(by omega) := ⟨_, rfl⟩
          rw [← hz] at c0
          have HZ := hid hz
          clear hz
          by_cases h1 : z < 0
          · obtain rfl : b = false := by
              rw [← Bool.not_eq_true, HB.out]
              intro h9
              have := (h9 j (by omega)).1
              rw [← HZ.out] at this
              omega
            go_wp2_with fail
            go_ret
            exact ⟨by simp, grown_trans HW2.out hg⟩
          · by_cases h2 : pt ≤ z
            · obtain rfl : b = false := by
                rw [← Bool.not_eq_true, HB.out]
                intro h9
                have := (h9 j (by omega)).2
                rw [← HZ.out] at this
                omega
              go_wp2_with fail
              go_ret
              exact ⟨by simp, grown_trans HW2.out hg⟩
            · go_wp2_with fail
              refine ⟨⟨j + 1, by omega, by go_num, hg, fun i hi h => ?_⟩, by simp [intOf]; omega⟩
              rcases Nat.lt_or_eq_of_le (Nat.le_of_lt_succ h) with h | rfl
              · exact HALL.out i hi h
              · rw [← HZ.out]; omega
        · obtain rfl : j = na := by omega
          obtain rfl : b = true := HB.out.2 fun i hi => HALL.out i hi (by omega)
          have k0 := hg.cell K0.out (by simp)
          have k1 := hg.cell K1.out (by simp)
          have k2 := hg.cell K2.out (by simp)
          have k3 := hg.cell K3.out (by simp)
          have k4 := hg.cell K4.out (by simp)
          have hW := grown_trans HW2.out hg
          clear HW2 K0 K1 K2 K3 K4 hg
          by_cases hk : k = 9
          · subst hk
            have HRR := hid (HRA.out (by simp))
            cases R
            all_goals
              go_wp2_with (go_at_call 23; refine (HRR.out _ hW).mono ?_; rintro e w2 ⟨rfl, hg⟩; replace hW := grown_trans hW hg; replace k0 := hg.cell k0 (by simp); replace k1 := hg.cell k1 (by simp); replace k2 := hg.cell k2 (by simp); replace k3 := hg.cell k3 (by simp); replace k4 := hg.cell k4 (by simp); clear hg)
              go_ret
              exact ⟨by simp, hW⟩
          · have hkb : (k == 9) = false := by simpa using hk
            have hkc : (k != 9) = true := by simpa using hk
            have HNN := hid fun w => HRN.out hk w
            cases R
            all_goals
              go_wp2_with (go_at_call 24; refine (HNN.out _).mono ?_; rintro e w2 ⟨rfl, hg⟩; replace hW := grown_trans hW hg; replace k0 := hg.cell k0 (by simp); replace k1 := hg.cell k1 (by simp); replace k2 := hg.cell k2 (by simp); replace k3 := hg.cell k3 (by simp); replace k4 := hg.cell k4 (by simp); clear hg)
              go_ret
              exact ⟨by simp, hW⟩
    · have hq1 : ((na : Int) != (a : Int)) = true := by simp; omega
      rw [if_pos h1]
      go_enter Tryd.func9, Tryd.ntmps9
      go_upto_region 1 with fail
      generalize (w.alloc _) = w0 at *
      go_upto_region 3 with (first | (go_at_call 7; refine (HA.out _).mono ?_; rintro e w1 ⟨rfl, hg⟩; replace hW := grown_trans hW hg; replace k0 := hg.cell k0 (by simp); replace k1 := hg.cell k1 (by simp); replace k2 := hg.cell k2 (by simp); replace k3 := hg.cell k3 (by simp); replace k4 := hg.cell k4 (by simp); clear hg))
      go_region_held3 (fun w' => w'.cell? ⟨w.heap.size, 0, none⟩ = some (.int .i64 k) ∧ w'.cell? ⟨w.heap.size, 1, none⟩ = some (.slice pa na ca) ∧ w'.cell? ⟨w.heap.size, 2, none⟩ = some (.bool g) ∧ w'.cell? ⟨w.heap.size, 3, none⟩ = some (.slice p1 n1 c1) ∧ w'.cell? ⟨w.heap.size, 4, none⟩ = some (.slice p2 n2 c2) ∧ w.grownBy w' none) ((try go_split_ands) <;> (repeat' apply And.intro) <;> (first | (with_reducible assumption) | (with_reducible refine (grown_drew _ none).cell ?_ (by simp); with_reducible assumption) | (with_reducible refine grown_trans ?_ (grown_drew _ none); with_reducible assumption))) (first | (go_at_call 7; (with_reducible refine (HA.out _).mono ?_); rintro e w1 ⟨rfl, hg⟩; (first | replace hW := grown_trans hW hg | replace hW := grown_trans (grown_trans hW (grown_drew _ none)) hg); replace k0 := hg.cell k0 (by simp); replace k1 := hg.cell k1 (by simp); replace k2 := hg.cell k2 (by simp); replace k3 := hg.cell k3 (by simp); replace k4 := hg.cell k4 (by simp); clear hg))
      go_wp2_with fail
      go_ret
      exact ⟨by simp, by first | exact hW | exact grown_trans hW (grown_drew _ none)⟩
end Go.Proofs.YtibjmibdboamcaaDoor

set_option linter.unusedVariables false
set_option linter.unusedSimpArgs false
namespace Go.Proofs.YtibjmibdboamcaaDoor
open Go.ChangeShapes Go.WideShapes Go.ChangeAt Go.RowKit _root_.Nm
theorem cellsIntF : Tryd.prog.cellsOf 3 = 1 := by kernel_rfl
theorem cellsIntsF : Tryd.prog.cellsOf 22 = 1 := by kernel_rfl
theorem cells16F : Tryd.prog.cellsOf 71 = 1 := by kernel_rfl
theorem cellsNatF : Tryd.prog.cellsOf 24 = 1 := by kernel_rfl
theorem cellsIF : Tryd.prog.cellsOf 26 = 2 := by kernel_rfl
theorem cellsRatF : Tryd.prog.cellsOf 28 = 3 := by kernel_rfl
theorem cellsBoolF : Tryd.prog.cellsOf 4 = 1 := by kernel_rfl
theorem cellsFactF : Tryd.prog.cellsOf 30 = 5 := by kernel_rfl
theorem bulk_oneF {H : Type} (d : DataW H) : 1 ≤ Rows.uptoBulk d := by
  cases d with
  | lit l => cases l <;> simp [Rows.uptoBulk]
  | _ => simp [Rows.uptoBulk]
theorem bulk_partF {H : Type} {d : DataW H} {l : List (DataW H)} (h : d ∈ l) : Rows.uptoBulk d ≤ Rows.uptoBulkAll l := by
  induction l with
  | nil => cases h
  | cons x r ih =>
    simp only [Rows.uptoBulkAll]
    rcases List.mem_cons.1 h with rfl | h
    · omega
    · have := ih h
      omega
theorem bulkAll_lenF {H : Type} : ∀ (l : List (DataW H)), l.length ≤ Rows.uptoBulkAll l
  | [] => by simp
  | d :: l => by
    have := bulkAll_lenF l
    have := bulk_oneF d
    simp only [Rows.uptoBulkAll, List.length_cons]
    omega
section
variable {H : Type} {enc : TypeId × Value → H} {W : World}
theorem open_natF {fuel : Nat} {cs : List Value} {x : DataW H × List MemPlace} (hf : DataW.trod enc Tryd.prog W 0 (fun _ => true) true fuel 24 cs = some x) :
    ∃ a n c xs, cs = [.slice a n c] ∧ IRd W .u16 a n c xs ∧ Dg 65536 xs ∧ n + 1 ≤ Rows.uptoBulk x.1 := by
  rcases open_ints Tryd.underlying24 Tryd.underlying71 cells16F hf with ⟨hcs, hx⟩ | ⟨a, len', cap', zs, hcs, _, hl, hm, hz, hx, hcell, hwz⟩
  · exact ⟨none, 0, 0, [], hcs, IRd.nil W _, fun y hy => (by cases hy), by rw [hx]; simp [Rows.uptoBulk]⟩
  · simp only [if_true] at hz
    have hb : ∀ z ∈ zs, 0 ≤ z ∧ z ≤ 65535 := fun z hzm => bounds_u16 (hwz z hzm)
    refine ⟨some a, len', cap', (zs.take len').map Int.toNat, hcs, ⟨by simp; omega, hl, by unfold maxLen at hm; omega, fun j hj => ?_⟩, ?_, ?_⟩
    · have hj' : j < len' := by simp at hj; omega
      have hc := hcell j (by omega)
      have hg : zs.getD j 0 = zs[j]'(by omega) := by simp [List.getD, List.getElem?_eq_getElem (show j < zs.length by omega)]
      have hsp := World.cell?_spot (hcell 0 (by omega))
      have ha : ∃ b o, a = ⟨b, o, none⟩ := ⟨a.block, a.off, by
        cases a with
        | mk b o s => simp [Addr.add] at hsp; simp [hsp]⟩
      obtain ⟨b, o, rfl⟩ := ha
      refine ⟨b, o, rfl, ?_⟩
      rw [add_addr] at hc
      rw [hc, hg]
      have := hb _ (List.getElem_mem (show j < zs.length by omega))
      simp only [List.getElem_map, List.getElem_take]
      congr 2; omega
    · intro y hy
      obtain ⟨z, hzm, rfl⟩ := List.mem_map.1 hy
      have := hb z (List.mem_of_mem_take hzm)
      omega
    · rw [hx]
      have h1 := bulkAll_lenF (H := H) (lits .u16 (zs.take len'))
      have h2 : (lits (H := H) .u16 (zs.take len')).length = len' := by simp [lits]; omega
      simp only [Rows.uptoBulk]
      omega
theorem open_intsF {fuel : Nat} {cs : List Value} {x : DataW H × List MemPlace} (hf : DataW.trod enc Tryd.prog W 0 (fun _ => true) true fuel 22 cs = some x) :
    ∃ a n c zs, cs = [.slice a n c] ∧ ZRd W .i64 a n c zs ∧ n + 1 ≤ Rows.uptoBulk x.1 := by
  rcases open_ints Tryd.underlying22 Tryd.underlying3 cellsIntF hf with ⟨hcs, hx⟩ | ⟨a, len', cap', zs, hcs, _, hl, hm, hz, hx, hcell, hwz⟩
  · exact ⟨none, 0, 0, [], hcs, ZRd.nil W _, by rw [hx]; simp [Rows.uptoBulk]⟩
  · simp only [if_true] at hz
    refine ⟨some a, len', cap', zs.take len', hcs, ⟨by simp; omega, hl, by unfold maxLen at hm; omega, fun j hj => ?_⟩, ?_⟩
    · have hj' : j < len' := by simp at hj; omega
      have hc := hcell j (by omega)
      have hg : zs.getD j 0 = zs[j]'(by omega) := by simp [List.getD, List.getElem?_eq_getElem (show j < zs.length by omega)]
      have hsp := World.cell?_spot (hcell 0 (by omega))
      have ha : ∃ b o, a = ⟨b, o, none⟩ := ⟨a.block, a.off, by
        cases a with
        | mk b o s => simp [Addr.add] at hsp; simp [hsp]⟩
      obtain ⟨b, o, rfl⟩ := ha
      refine ⟨b, o, rfl, ?_⟩
      rw [add_addr] at hc
      rw [hc, hg]
      simp
    · rw [hx]
      have h1 := bulkAll_lenF (H := H) (lits .i64 (zs.take len'))
      have h2 : (lits (H := H) .i64 (zs.take len')).length = len' := by simp [lits]; omega
      simp only [Rows.uptoBulk]
      omega
theorem open_ratF {fuel : Nat} {cs : List Value} {x : DataW H × List MemPlace} (hf : DataW.trod enc Tryd.prog W 0 (fun _ => true) true fuel 28 cs = some x) (hl : cs.length = 3) :
    ∃ g a n c xs b m e ys, cs = [.bool g, .slice a n c, .slice b m e] ∧ IRd W .u16 a n c xs ∧ IRd W .u16 b m e ys ∧ (Dg 65536 xs ∧ Dg 65536 ys) ∧ n + m + 1 ≤ Rows.uptoBulk x.1 := by
  obtain ⟨y0, y1, k, hx, _, h0, h1⟩ := trod_struct2 Tryd.underlying28 hf
  rw [cellsIF] at h0
  obtain ⟨z0, z1, k', hx', _, g0, g1⟩ := trod_struct2 Tryd.underlying26 h0
  rw [cellsBoolF] at g0
  rw [cellsNatF] at g1 h1
  match cs, hl with
  | [u, v, t], _ =>
    obtain ⟨b, hbo, _⟩ := DataW.trod_bool Tryd.underlying4 g0
    obtain ⟨a, n, c, xs, hs, hr, hd, hn⟩ := open_natF g1
    obtain ⟨b', m, e, ys, hs1, hr1, hd1, hm⟩ := open_natF h1
    simp at hbo hs hs1
    subst hbo hs hs1
    refine ⟨b, a, n, c, xs, b', m, e, ys, rfl, hr, hr1, ⟨hd, hd1⟩, ?_⟩
    rw [hx, hx']
    simp only [Rows.uptoBulk, List.map_cons, List.map_nil, Rows.uptoBulkAll]
    omega
/-- a fact in memory -/
def FcRd (w : World) (cs : List Value) : Prop := ∃ (k : Int) (pa : Option Addr) (na ca : Nat) (g : Bool) (p1 : Option Addr) (n1 c1 : Nat) (p2 : Option Addr) (n2 c2 : Nat) (zs : List Int) (xs ys : List Nat),
  cs = [.int .i64 k, .slice pa na ca, .bool g, .slice p1 n1 c1, .slice p2 n2 c2] ∧ ZRd w .i64 pa na ca zs ∧ IRd w .u16 p1 n1 c1 xs ∧ IRd w .u16 p2 n2 c2 ys ∧ (Dg 65536 xs ∧ Dg 65536 ys) ∧ n1 ≤ 1048576 ∧ n2 ≤ 1048576
set_option maxRecDepth 100000 in
theorem open_factF {fuel : Nat} {cs : List Value} {x : DataW H × List MemPlace} (hf : DataW.trod enc Tryd.prog W 0 (fun _ => true) true fuel 30 cs = some x) (hb : Rows.uptoBulk x.1 ≤ 1048576) : FcRd W cs := by
  cases fuel with
  | zero => simp [DataW.trod] at hf
  | succ fuel =>
  obtain ⟨xs, m, hm, rfl, hl, hlen, hfs⟩ := DataW.trod_struct Tryd.underlying30 hf
  rw [cellsFactF] at hl
  match cs, hl, xs, hlen with
  | [c0, c1, c2, c3, c4], _, [y0, y1, y2], _ =>
    have h0 := hfs 0 _ rfl
    have h1 := hfs 1 _ rfl
    have h2 := hfs 2 _ rfl
    clear hfs
    simp [cellsIntF, cellsIntsF, cellsRatF] at h0 h1 h2
    obtain ⟨k, hk, _, _⟩ := DataW.trod_int Tryd.underlying3 h0
    obtain ⟨pa, na, ca, zs, ha, hz, _⟩ := open_intsF h1
    obtain ⟨g, p1, n1, c1', xs, p2, n2, c2', ys, hr, hn, hd, hdg, hrb⟩ := open_ratF h2 rfl
    simp at hk ha hr
    obtain ⟨rfl, rfl, rfl⟩ := hr
    subst hk ha
    have h9 : Rows.uptoBulk y2.1 ≤ 1048576 := Nat.le_trans (bulk_partF (l := [y0.1, y1.1, y2.1]) (by simp)) (by
      simp only [Rows.uptoBulk, List.map_cons, List.map_nil] at hb
      omega)
    exact ⟨k, pa, na, ca, g, p1, n1, c1', p2, n2, c2', zs, xs, ys, rfl, hz, hn, hd, hdg, by omega, by omega⟩
end
end Go.Proofs.YtibjmibdboamcaaDoor

set_option linter.unusedVariables false
set_option linter.unusedSimpArgs false
namespace Go.Proofs.YtibjmibdboamcaaDoor
open Go.RowKit _root_.Nm
theorem ratF_both {w : World} (Tq : Tb w) (z g : Bool) {p1 p2 : Option Addr} {n1 c1 n2 c2 : Nat} {xs ys : List Nat} (hr0 : IRd w .u16 p1 n1 c1 xs) (hx : Dg 65536 xs) (hr1 : IRd w .u16 p2 n2 c2 ys) (hy : Dg 65536 ys) (hn : n1 ≤ 1048576) (hm : n2 ≤ 1048576) :
    ∃ R, RatF w z g p1 n1 c1 p2 n2 c2 R := by
  cases z
  · exact ⟨_, { right := fun h => (by cases h), rright := fun h => (by cases h), none := fun _ => rfl }⟩
  · obtain ⟨r, h1, h2, _⟩ := right3_full Tq g hr0 hx hr1 hy (by omega) (by omega)
    exact ⟨r, { right := fun _ => h1, rright := fun _ => h2, none := fun h => (by cases h) }⟩
theorem ex_boolF (P : Prop) : ∃ b : Bool, b = true ↔ P := by
  by_cases h : P
  · exact ⟨true, by simp [h]⟩
  · exact ⟨false, by simp [h]⟩
set_option maxHeartbeats 64000000 in
set_option maxRecDepth 100000 in
theorem predicateRights_walk (cs : List Value) (pt : Int) (w : World) (Tq : Tb w) (hF : FcRd w cs) :
    Calls Tryd.prog 3 #[.agg cs.toArray, .int .i64 pt] w fun e w' => e = .returned (.bool true) ∧ w.grownBy w' none := by
  obtain ⟨k, pa, na, ca, g, p1, n1, c1, p2, n2, c2, zs, xs, ys, rfl, hz, hx, hy, ⟨dx, dy⟩, b1, b2⟩ := hF
  obtain ⟨R, hR⟩ := ratF_both Tq (decide (k = 9)) g hx dx hy dy b1 b2
  obtain ⟨b, hb⟩ := ex_boolF (∀ i (hi : i < zs.length), 0 ≤ zs[i] ∧ zs[i] < pt)
  have H1 := hid fun w' (hg : w.grownBy w' none) => fRight_n k pa na ca g p1 n1 c1 p2 n2 c2 zs pt b R w' (hz.keep hg) hb (hR.keep hg)
  have H2 := hid fun w' (hg : w.grownBy w' none) => rRight14_n k pa na ca g p1 n1 c1 p2 n2 c2 zs pt b R w' (hz.keep hg) hb (hR.keep hg)
  have A1 := hid fun k w => arity_any k w
  have A2 := hid fun k w => rArity_any k w
  clear hz hx hy dx dy b1 b2 hR hb Tq
  have hW := World.grownBy_alloc w (.cells #[.int .i64 k, .slice pa na ca, .bool g, .slice p1 n1 c1, .slice p2 n2 c2] 30 (0, 0)) none
  obtain ⟨⟨k0, k1, k2, k3, k4⟩, -⟩ := box5 (blk0 w (.cells #[.int .i64 k, .slice pa na ca, .bool g, .slice p1 n1 c1, .slice p2 n2 c2] 30 (0, 0)))
  generalize errF k na b R = x at *
  have hq1 : ∀ n : Nat, ((n : Int) == (n : Int)) = true := fun n => by simp
  have hq2 : (x == x) = true := by simp
  go_enter Tryd.func3, Tryd.ntmps3
  go_upto_region 1 with fail
  generalize (w.alloc _) = w0 at *
  go_region_held3 (fun w' => w'.cell? ⟨w.heap.size, 0, none⟩ = some (.int .i64 k) ∧ w'.cell? ⟨w.heap.size, 1, none⟩ = some (.slice pa na ca) ∧ w'.cell? ⟨w.heap.size, 2, none⟩ = some (.bool g) ∧ w'.cell? ⟨w.heap.size, 3, none⟩ = some (.slice p1 n1 c1) ∧ w'.cell? ⟨w.heap.size, 4, none⟩ = some (.slice p2 n2 c2) ∧ w.grownBy w' none) ((try go_split_ands) <;> (repeat' apply And.intro) <;> (first | (with_reducible assumption) | (with_reducible refine (grown_drew _ none).cell ?_ (by simp); with_reducible assumption) | (with_reducible refine grown_trans ?_ (grown_drew _ none); with_reducible assumption))) (first | (go_at_call 6; (with_reducible refine (A1.out _ _).mono ?_); rintro e w1 ⟨rfl, hg⟩; (first | replace hW := grown_trans hW hg | replace hW := grown_trans (grown_trans hW (grown_drew _ none)) hg); replace k0 := hg.cell k0 (by simp); replace k1 := hg.cell k1 (by simp); replace k2 := hg.cell k2 (by simp); replace k3 := hg.cell k3 (by simp); replace k4 := hg.cell k4 (by simp); clear hg) | (go_at_call 7; (with_reducible refine (A2.out _ _).mono ?_); rintro e w1 ⟨rfl, hg⟩; (first | replace hW := grown_trans hW hg | replace hW := grown_trans (grown_trans hW (grown_drew _ none)) hg); replace k0 := hg.cell k0 (by simp); replace k1 := hg.cell k1 (by simp); replace k2 := hg.cell k2 (by simp); replace k3 := hg.cell k3 (by simp); replace k4 := hg.cell k4 (by simp); clear hg) | (go_at_call 8; (first | with_reducible refine (H1.out _ hW).mono ?_ | with_reducible refine (H1.out _ (grown_trans hW (grown_drew _ none))).mono ?_); rintro e w1 ⟨rfl, hg⟩; (first | replace hW := grown_trans hW hg | replace hW := grown_trans (grown_trans hW (grown_drew _ none)) hg); replace k0 := hg.cell k0 (by simp); replace k1 := hg.cell k1 (by simp); replace k2 := hg.cell k2 (by simp); replace k3 := hg.cell k3 (by simp); replace k4 := hg.cell k4 (by simp); clear hg) | (go_at_call 9; (first | with_reducible refine (H2.out _ hW).mono ?_ | with_reducible refine (H2.out _ (grown_trans hW (grown_drew _ none))).mono ?_); rintro e w1 ⟨rfl, hg⟩; (first | replace hW := grown_trans hW hg | replace hW := grown_trans (grown_trans hW (grown_drew _ none)) hg); replace k0 := hg.cell k0 (by simp); replace k1 := hg.cell k1 (by simp); replace k2 := hg.cell k2 (by simp); replace k3 := hg.cell k3 (by simp); replace k4 := hg.cell k4 (by simp); clear hg))
  go_wp2_with fail
  go_ret
  exact ⟨by simp, by first | exact hW | exact grown_trans hW (grown_drew _ none)⟩
end Go.Proofs.YtibjmibdboamcaaDoor
