/-
  FcA FcM LexM LexA LexB LexC LexD LexSh LexE LexF LexG LexN LexP LexQ LexR FcS FcT FcR FcO FcG FcH, in one text.
-/
import Derived.Test.YtdmlcddieadelaaProg
import Derived.Test.YtdmlcddieadelaaZMem
import Derived.Test.YtdmlcddieadelaaBox4
import Derived.Test.YtdmlcddieadelaaOwn
import Derived.StillTailTactics
import Derived.Deep.DeepCutAuto
import Derived.IntWalk
import Derived.Deep.RegionHeld3
import Derived.Maps.Own
import Derived.Maps.Views
import Derived.Maps.OwnSet
import Derived.WalkKit
import Derived.Carry
import Derived.Lib.Strings
import Derived.Test.YtdmlcddieadelaaMem
import Derived.Lib.Bytealg
import Derived.Lib.Walk
import Derived.Laws.Strings3
import Derived.BigCall
import Derived.WalkSpells
import Derived.Laws.DeepStrings4
import Derived.Shelf.Strings.Prefix
import Derived.Shelf.Spec.SearchS
import Derived.Deep.LoopGhost
import Derived.KernelRfl
import Derived.Laws.RangeAny
import Derived.Test.YtdmlcddieadelaaDig
import Derived.Test.YtdmlcddieadelaaRows
import Derived.ProofKit
import Derived.OpenShut
import Derived.SliceStrings

set_option linter.unusedVariables false
set_option linter.unusedSimpArgs false
namespace Go.Proofs.Ytdmlcddieadelaa
open Go.RowKit _root_.Nm
/-- the number of arguments of a fact -/
def arF (k : Int) : Nat := if k = 1 then 3 else if k = 2 then 4 else if k = 3 then 4 else if k = 4 then 4 else if k = 5 then 3 else if k = 6 then 4 else if k = 7 then 8 else if k = 8 then 2 else if k = 9 then 4 else 0
theorem arF_le (k : Int) : arF k ≤ 8 := by
  unfold arF
  repeat' split
  all_goals omega
set_option maxHeartbeats 8000000 in
set_option maxRecDepth 100000 in
theorem rArity_any (k : Int) (w : World) : Calls Try.prog 57 #[.int .i64 k] w fun e w' => e = .returned (.int .i64 (arF k : Nat)) ∧ w.grownBy w' none := by
  unfold arF
  by_cases h1 : k = 1
  · subst h1
    go_enter Try.func57, Try.ntmps57
    go_wp2_with fail
    go_ret
    exact ⟨by simp, grown_refl _ _⟩
  by_cases h2 : k = 2
  · subst h2
    go_enter Try.func57, Try.ntmps57
    go_wp2_with fail
    go_ret
    exact ⟨by simp, grown_refl _ _⟩
  by_cases h3 : k = 3
  · subst h3
    go_enter Try.func57, Try.ntmps57
    go_wp2_with fail
    go_ret
    exact ⟨by simp, grown_refl _ _⟩
  by_cases h4 : k = 4
  · subst h4
    go_enter Try.func57, Try.ntmps57
    go_wp2_with fail
    go_ret
    exact ⟨by simp, grown_refl _ _⟩
  by_cases h5 : k = 5
  · subst h5
    go_enter Try.func57, Try.ntmps57
    go_wp2_with fail
    go_ret
    exact ⟨by simp, grown_refl _ _⟩
  by_cases h6 : k = 6
  · subst h6
    go_enter Try.func57, Try.ntmps57
    go_wp2_with fail
    go_ret
    exact ⟨by simp, grown_refl _ _⟩
  by_cases h7 : k = 7
  · subst h7
    go_enter Try.func57, Try.ntmps57
    go_wp2_with fail
    go_ret
    exact ⟨by simp, grown_refl _ _⟩
  by_cases h8 : k = 8
  · subst h8
    go_enter Try.func57, Try.ntmps57
    go_wp2_with fail
    go_ret
    exact ⟨by simp, grown_refl _ _⟩
  by_cases h9 : k = 9
  · subst h9
    go_enter Try.func57, Try.ntmps57
    go_wp2_with fail
    go_ret
    exact ⟨by simp, grown_refl _ _⟩
  go_enter Try.func57, Try.ntmps57
  go_wp2_with fail
  go_ret
  exact ⟨by simp [h1, h2, h3, h4, h5, h6, h7, h8, h9], grown_refl _ _⟩
theorem box5 {w : World} {G : Nat} {a b c d e : Value} {T : TypeId} (hb : w.heap[G]? = some (.cells #[a, b, c, d, e] T (0, 0))) :
    (w.cell? ⟨G, 0, none⟩ = some a ∧ w.cell? ⟨G, 1, none⟩ = some b ∧ w.cell? ⟨G, 2, none⟩ = some c ∧ w.cell? ⟨G, 3, none⟩ = some d ∧ w.cell? ⟨G, 4, none⟩ = some e) ∧ (∀ o, w.frozen? ⟨G, o, none⟩ = false) := by
  have k := fun i => cell_of_row w G i _ _ _ hb
  have k0 := k 0; have k1 := k 1; have k2 := k 2; have k3 := k 3; have k4 := k 4
  simp at k0 k1 k2 k3 k4
  exact ⟨⟨k0, k1, k2, k3, k4⟩, fun o => frozen_of_row w G o _ _ hb⟩
theorem box2n {w : World} {G : Nat} {a b : Value} {T : TypeId} (hb : w.heap[G]? = some (.cells #[a, b] T (0, 0))) :
    (w.cell? ⟨G, 0, none⟩ = some a ∧ w.cell? ⟨G, 1, none⟩ = some b) ∧ (∀ o, w.frozen? ⟨G, o, none⟩ = false) := by
  have k := fun i => cell_of_row w G i _ _ _ hb
  have k0 := k 0; have k1 := k 1
  simp at k0 k1
  exact ⟨⟨k0, k1⟩, fun o => frozen_of_row w G o _ _ hb⟩
theorem box3n {w : World} {G : Nat} {a b c : Value} {T : TypeId} (hb : w.heap[G]? = some (.cells #[a, b, c] T (0, 0))) :
    w.cell? ⟨G, 0, none⟩ = some a ∧ w.cell? ⟨G, 1, none⟩ = some b ∧ w.cell? ⟨G, 2, none⟩ = some c := by
  have k := fun i => cell_of_row w G i _ _ _ hb
  have k0 := k 0; have k1 := k 1; have k2 := k 2
  simp at k0 k1 k2
  exact ⟨k0, k1, k2⟩
/-- whether the Ratio of something that has one (z), or none, is right, as both sides find it -/
structure RatF (w : World) (z : Bool) (g : Bool) (p1 : Option Addr) (n1 c1 : Nat) (p2 : Option Addr) (n2 c2 : Nat) (R : Bool) : Prop where
  rright : z = true → ∀ W, w.grownBy W none → Calls Try.prog 55 #[.agg #[.bool g, .slice p1 n1 c1, .slice p2 n2 c2]] W fun e w' => e = .returned (.bool R) ∧ W.grownBy w' none
  none : z = false → R = (!g && (decide (n1 = 0) && decide (n2 = 0)))
theorem RatF.keep {w w' : World} {z g : Bool} {p1 : Option Addr} {n1 c1 : Nat} {p2 : Option Addr} {n2 c2 : Nat} {R : Bool} (h : RatF w z g p1 n1 c1 p2 n2 c2 R) (hg : w.grownBy w' Option.none) : RatF w' z g p1 n1 c1 p2 n2 c2 R where
  rright := fun hb W hW => h.rright hb W (grown_trans hg hW)
  none := h.none
set_option maxHeartbeats 4000000 in
set_option maxRecDepth 100000 in
theorem rNone14_any (g : Bool) (p q : Option Addr) (n c m d : Nat) (R : Bool) (hR : R = (!g && (decide (n = 0) && decide (m = 0)))) (w : World) :
    Calls Try.prog 58 #[.agg #[.bool g, .slice p n c, .slice q m d]] w fun e w' => e = .returned (.bool R) ∧ w.grownBy w' none := by
  subst hR
  have hW := World.grownBy_alloc w (.cells #[.bool g, .slice p n c, .slice q m d] 56 (0, 0)) none
  obtain ⟨k0, k1, k2⟩ := box3n (blk0 w (.cells #[.bool g, .slice p n c, .slice q m d] 56 (0, 0)))
  cases g
  · by_cases hn : n = 0
    · subst hn
      go_enter Try.func58, Try.ntmps58
      go_wp2_with fail
      go_ret
      have hm : ((m : Int) == 0) = decide (m = 0) := by rw [Bool.eq_iff_iff]; simp
      exact ⟨by simp [hm], hW⟩
    · have hz : ((n : Int) == 0) = false := by simpa using hn
      go_enter Try.func58, Try.ntmps58
      go_wp2_with fail
      go_ret
      exact ⟨by simp [hn], hW⟩
  · go_enter Try.func58, Try.ntmps58
    go_wp2_with fail
    go_ret
    exact ⟨by simp, hW⟩
/-- the error of a fact -/
def errF (k : Int) (n : Nat) (b R : Bool) : Int := if arF k = 0 then 8 else if n ≠ arF k then 1 else if b = false then 2 else if R = false then 1 else 0
set_option maxHeartbeats 32000000 in
set_option maxRecDepth 100000 in
theorem rRight14_n (k : Int) (pa : Option Addr) (na ca : Nat) (g : Bool) (p1 : Option Addr) (n1 c1 : Nat) (p2 : Option Addr) (n2 c2 : Nat) (zs : List Int) (pt : Int) (b R : Bool) (w : World) (h : ZRd w .i64 pa na ca zs) (hb : b = true ↔ ∀ i (hi : i < zs.length), 0 ≤ zs[i] ∧ zs[i] < pt) (hR : RatF w (decide (k = 9)) g p1 n1 c1 p2 n2 c2 R) :
    Calls Try.prog 25 #[.agg #[.int .i64 k, .slice pa na ca, .bool g, .slice p1 n1 c1, .slice p2 n2 c2], .int .i64 pt] w fun e w' => e = .returned (.int .i64 (errF k na b R)) ∧ w.grownBy w' none := by
  have hl := h.len
  have hc := h.cap
  have hm := h.max
  have hW := World.grownBy_alloc w (.cells #[.int .i64 k, .slice pa na ca, .bool g, .slice p1 n1 c1, .slice p2 n2 c2] 58 (0, 0)) none
  obtain ⟨⟨k0, k1, k2, k3, k4⟩, -⟩ := box5 (blk0 w (.cells #[.int .i64 k, .slice pa na ca, .bool g, .slice p1 n1 c1, .slice p2 n2 c2] 58 (0, 0)))
  have HA := hid fun w => rArity_any k w
  have HZS := hid h
  have HB := hid hb
  have HRA := hid hR.rright
  have HRN := hid fun (hk : ¬ k = 9) w => rNone14_any g p1 p2 n1 c1 n2 c2 R (hR.none (by simp [hk])) w
  clear h hb hR
  unfold errF
  generalize arF k = a at *
  by_cases h0 : a = 0
  · subst h0
    go_enter Try.func25, Try.ntmps25
    go_upto_region 1 with fail
    generalize (w.alloc _) = w0 at *
    go_wp2_with (first | (go_at_call 57; refine (HA.out _).mono ?_; rintro e w1 ⟨rfl, hg⟩; replace hW := grown_trans hW hg; replace k0 := hg.cell k0 (by simp); replace k1 := hg.cell k1 (by simp); replace k2 := hg.cell k2 (by simp); replace k3 := hg.cell k3 (by simp); replace k4 := hg.cell k4 (by simp); clear hg))
    go_ret
    exact ⟨by simp, hW⟩
  · have hq0 : ((a : Int) == 0) = false := by simpa using h0
    rw [if_neg h0]
    by_cases h1 : na = a
    · subst h1
      rw [if_neg (by simp)]
      go_enter Try.func25, Try.ntmps25
      go_upto_region 1 with fail
      generalize (w.alloc _) = w0 at *
      go_upto_region 3 with (first | (go_at_call 57; refine (HA.out _).mono ?_; rintro e w1 ⟨rfl, hg⟩; replace hW := grown_trans hW hg; replace k0 := hg.cell k0 (by simp); replace k1 := hg.cell k1 (by simp); replace k2 := hg.cell k2 (by simp); replace k3 := hg.cell k3 (by simp); replace k4 := hg.cell k4 (by simp); clear hg))
      clear hq0 h0
      go_region_held3 (fun w' => w'.cell? ⟨w.heap.size, 0, none⟩ = some (.int .i64 k) ∧ w'.cell? ⟨w.heap.size, 1, none⟩ = some (.slice pa na ca) ∧ w'.cell? ⟨w.heap.size, 2, none⟩ = some (.bool g) ∧ w'.cell? ⟨w.heap.size, 3, none⟩ = some (.slice p1 n1 c1) ∧ w'.cell? ⟨w.heap.size, 4, none⟩ = some (.slice p2 n2 c2) ∧ w.grownBy w' none) ((try go_split_ands) <;> (repeat' apply And.intro) <;> (first | (with_reducible assumption) | (with_reducible refine (grown_drew _ none).cell ?_ (by simp); with_reducible assumption) | (with_reducible refine grown_trans ?_ (grown_drew _ none); with_reducible assumption))) (first | (go_at_call 57; (with_reducible refine (HA.out _).mono ?_); rintro e w1 ⟨rfl, hg⟩; (first | replace hW := grown_trans hW hg | replace hW := grown_trans (grown_trans hW (grown_drew _ none)) hg); replace k0 := hg.cell k0 (by simp); replace k1 := hg.cell k1 (by simp); replace k2 := hg.cell k2 (by simp); replace k3 := hg.cell k3 (by simp); replace k4 := hg.cell k4 (by simp); clear hg))
      go_wp2_with fail
      have HW2 := hid hW
      have K0 := hid k0
      have K1 := hid k1
      have K2 := hid k2
      have K3 := hid k3
      have K4 := hid k4
      clear hW k0 k1 k2 k3 k4
      go_loopw [21] (fun y wr => ∃ j : Nat, j ≤ na ∧ y = .int .i64 j ∧ w1.grownBy wr none ∧ ∀ i (hi : i < zs.length), i < j → 0 ≤ zs[i] ∧ zs[i] < pt) (fun y _ => na - (intOf y).toNat)
      case atStart => exact ⟨0, Nat.zero_le _, rfl, (by first | exact grown_refl _ _ | exact grown_drew _ _), fun i _ h => absurd h (Nat.not_lt_zero i)⟩
      case round =>
        obtain ⟨j, hj, rfl, hg, hall⟩ := hrel
        have HALL := hid hall
        clear hall
        by_cases hlt : j < na
        · obtain ⟨bA, oA, rfl, c0⟩ := (HZS.out.keep (grown_trans HW2.out hg)).cel j (by omega)
          obtain ⟨z, hz⟩ : ∃ z, z = zs[j]'(by omega) := ⟨_, rfl⟩
          rw [← hz] at c0
          have HZ := hid hz
          clear hz
          by_cases h1 : z < 0
          · obtain rfl : b = false := by
              rw [← Bool.not_eq_true, HB.out]
              intro h9
              have := (h9 j (by omega)).1
              rw [← HZ.out] at this
              omega
            go_wp2_with fail
            go_ret
            exact ⟨by simp, grown_trans HW2.out hg⟩
          · by_cases h2 : pt ≤ z
            · obtain rfl : b = false := by
                rw [← Bool.not_eq_true, HB.out]
                intro h9
                have := (h9 j (by omega)).2
                rw [← HZ.out] at this
                omega
              go_wp2_with fail
              go_ret
              exact ⟨by simp, grown_trans HW2.out hg⟩
            · go_wp2_with fail
              refine ⟨⟨j + 1, by omega, by go_num, hg, fun i hi h => ?_⟩, by simp [intOf]; omega⟩
              rcases Nat.lt_or_eq_of_le (Nat.le_of_lt_succ h) with h | rfl
              · exact HALL.out i hi h
              · rw [← HZ.out]; omega
        · obtain rfl : j = na := by omega
          obtain rfl : b = true := HB.out.2 fun i hi => HALL.out i hi (by omega)
          have k0 := hg.cell K0.out (by simp)
          have k1 := hg.cell K1.out (by simp)
          have k2 := hg.cell K2.out (by simp)
          have k3 := hg.cell K3.out (by simp)
          have k4 := hg.cell K4.out (by simp)
          have hW := grown_trans HW2.out hg
          clear HW2 K0 K1 K2 K3 K4 hg
          by_cases hk : k = 9
          · subst hk
            have HRR := hid (HRA.out (by simp))
            cases R
            all_goals
              go_wp2_with (go_at_call 55; refine (HRR.out _ hW).mono ?_; rintro e w2 ⟨rfl, hg⟩; replace hW := grown_trans hW hg; replace k0 := hg.cell k0 (by simp); replace k1 := hg.cell k1 (by simp); replace k2 := hg.cell k2 (by simp); replace k3 := hg.cell k3 (by simp); replace k4 := hg.cell k4 (by simp); clear hg)
              go_ret
              exact ⟨by simp, hW⟩
          · have hkb : (k == 9) = false := by simpa using hk
            have hkc : (k != 9) = true := by simpa using hk
            have HNN := hid fun w => HRN.out hk w
            cases R
            all_goals
              go_wp2_with (go_at_call 58; refine (HNN.out _).mono ?_; rintro e w2 ⟨rfl, hg⟩; replace hW := grown_trans hW hg; replace k0 := hg.cell k0 (by simp); replace k1 := hg.cell k1 (by simp); replace k2 := hg.cell k2 (by simp); replace k3 := hg.cell k3 (by simp); replace k4 := hg.cell k4 (by simp); clear hg)
              go_ret
              exact ⟨by simp, hW⟩
    · have hq1 : ((na : Int) != (a : Int)) = true := by simp; omega
      rw [if_pos h1]
      go_enter Try.func25, Try.ntmps25
      go_upto_region 1 with fail
      generalize (w.alloc _) = w0 at *
      go_upto_region 3 with (first | (go_at_call 57; refine (HA.out _).mono ?_; rintro e w1 ⟨rfl, hg⟩; replace hW := grown_trans hW hg; replace k0 := hg.cell k0 (by simp); replace k1 := hg.cell k1 (by simp); replace k2 := hg.cell k2 (by simp); replace k3 := hg.cell k3 (by simp); replace k4 := hg.cell k4 (by simp); clear hg))
      go_region_held3 (fun w' => w'.cell? ⟨w.heap.size, 0, none⟩ = some (.int .i64 k) ∧ w'.cell? ⟨w.heap.size, 1, none⟩ = some (.slice pa na ca) ∧ w'.cell? ⟨w.heap.size, 2, none⟩ = some (.bool g) ∧ w'.cell? ⟨w.heap.size, 3, none⟩ = some (.slice p1 n1 c1) ∧ w'.cell? ⟨w.heap.size, 4, none⟩ = some (.slice p2 n2 c2) ∧ w.grownBy w' none) ((try go_split_ands) <;> (repeat' apply And.intro) <;> (first | (with_reducible assumption) | (with_reducible refine (grown_drew _ none).cell ?_ (by simp); with_reducible assumption) | (with_reducible refine grown_trans ?_ (grown_drew _ none); with_reducible assumption))) (first | (go_at_call 57; (with_reducible refine (HA.out _).mono ?_); rintro e w1 ⟨rfl, hg⟩; (first | replace hW := grown_trans hW hg | replace hW := grown_trans (grown_trans hW (grown_drew _ none)) hg); replace k0 := hg.cell k0 (by simp); replace k1 := hg.cell k1 (by simp); replace k2 := hg.cell k2 (by simp); replace k3 := hg.cell k3 (by simp); replace k4 := hg.cell k4 (by simp); clear hg))
      go_wp2_with fail
      go_ret
      exact ⟨by simp, by first | exact hW | exact grown_trans hW (grown_drew _ none)⟩
end Go.Proofs.Ytdmlcddieadelaa

set_option linter.unusedVariables false
set_option linter.unusedSimpArgs false
namespace Go.Proofs.Ytdmlcddieadelaa
open Go.RowKit Go.Maps _root_.Nm
theorem bytesEq {a b : ByteArray} : a.toList = b.toList ↔ a = b := by
  constructor
  · intro h
    rw [Lib.toList_data, Lib.toList_data] at h
    cases a; cases b
    rw [ByteArray.mk.injEq]
    exact Array.toList_inj.1 h
  · exact fun h => h ▸ rfl
theorem keyStr (d : ByteArray) (h : d.size ≤ maxLen) : keyOf Try.prog 9 (.string d) = some (.string d.toList) := by
  rw [Lib.toList_data]
  exact WideMaps.keyOf_string_mk Try.underlying9 h
theorem zeroBoolT (w : World) : (zeroValue 4).run Try.prog w = .ok (.bool false) w := by kernel_rfl
/-- the map bm holds the truth values S x, where they are true -/
structure MapT (w : World) (bm n : Nat) (S : ByteArray → Bool) : Prop where
  ex : ∃ D : DataW Unit, Maps.IsMap D ∧ w.ownsMap Try.prog 9 (plainElem Try.prog 4) bm n D ∧ ∀ x : ByteArray, D.atKey (.string x.toList) (.lit (.bool false)) = .lit (.bool (S x))
section
variable {w w' : World} {bm n : Nat} {S : ByteArray → Bool}
theorem MapT.kept (h : MapT w bm n S) {row : Option Nat} (hg : w.grownBy w' row) (hne : some bm ≠ row) : MapT w' bm n S := by
  obtain ⟨D, h1, h2, h3⟩ := h.ex
  exact ⟨D, h1, h2.kept hg hne, h3⟩
theorem MapT.keep (h : MapT w bm n S) (hg : w.grownBy w' none) : MapT w' bm n S := h.kept hg (by simp)
theorem MapT.lt (h : MapT w bm n S) : bm < w.heap.size := by
  obtain ⟨D, h1, h2, h3⟩ := h.ex
  exact h2.lt
theorem MapT.made (w : World) : MapT (w.alloc (.map #[] 0)) w.heap.size 0 (fun _ => false) :=
  ⟨.map [], ⟨[], rfl⟩, World.ownsMap_made w _ _ _, fun x => by rfl⟩
set_option maxRecDepth 100000 in
theorem MapT.look (h : MapT w bm n S) (d : ByteArray) (hd : d.size ≤ maxLen) :
    (Instr.lookup 74 (.map (some bm)) (.string d) false).run Try.prog w = .ok (.bool (S d)) w := by
  obtain ⟨D, h1, h2, h3⟩ := h.ex
  obtain ⟨v, ps, hrun, hv⟩ := h2.lookup (string_keyed Try.underlying9) Try.underlying74 (zeroBoolT w) (plainElem_bool Try.underlying4 false) (keyStr d hd)
  rw [h3 d] at hv
  have inv : ∀ b, plainElem (H := Unit) Try.prog 4 v = some (.lit (.bool b), ps) → v = .bool b := by
    intro b hb
    unfold plainElem at hb
    rw [Try.underlying4] at hb
    cases v <;> simp at hb
    rw [hb.1]
  rw [hrun, inv _ hv]
set_option maxRecDepth 100000 in
theorem MapT.put (h : MapT w bm n S) (d : ByteArray) (hd : d.size ≤ maxLen) (hn : n < 1000000000) (b : Bool) :
    ∃ w', (Instr.mapUpdate 74 (.map (some bm)) (.string d) (.bool b)).run Try.prog w = .ok () w' ∧ w.grownBy w' (some bm) ∧ MapT w' bm (n + 1) (fun x => if x = d then b else S x) := by
  obtain ⟨D, h1, h2, h3⟩ := h.ex
  obtain ⟨w', hrun, hown, hg⟩ := h2.update (string_keyed Try.underlying9) Try.underlying74 (by unfold maxLen; omega) (keyStr d hd) (plainElem_bool Try.underlying4 b)
  refine ⟨w', hrun, hg, _, h1.put _ _, hown, fun x => ?_⟩
  by_cases e : x = d
  · subst e
    rw [if_pos rfl]
    exact atKey_put_same h1 (by simp [WideAt.IsKeyLit]) _ _
  · have hne : (Lit.string x.toList) ≠ .string d.toList := by intro e2; exact e (bytesEq.1 (by simpa using e2))
    rw [if_neg e, atKey_put_other hne]
    exact h3 x
set_option maxRecDepth 100000 in
theorem MapT.drop (h : MapT w bm n S) (d : ByteArray) (hd : d.size ≤ maxLen) (ty : TypeId) :
    ∃ w', (Builtin.delete_ #[74, 9] ty #[.map (some bm), .string d]).run Try.prog w = .ok (.tuple #[]) w' ∧ w.grownBy w' (some bm) ∧ MapT w' bm n (fun x => if x = d then false else S x) := by
  obtain ⟨D, h1, h2, h3⟩ := h.ex
  obtain ⟨w', hrun, hown, hg⟩ := h2.drop (string_keyed Try.underlying9) Try.underlying74 (keyStr d hd) ty
  refine ⟨w', hrun, hg.grown, _, h1.del _, hown, fun x => ?_⟩
  by_cases e : x = d
  · subst e
    rw [if_pos rfl]
    exact atKey_del_same _
  · have hne : (Lit.string x.toList) ≠ .string d.toList := by intro e2; exact e (bytesEq.1 (by simpa using e2))
    rw [if_neg e, atKey_del_other hne]
    exact h3 x
end
end Go.Proofs.Ytdmlcddieadelaa

set_option linter.unusedVariables false
namespace Lx

/-- the kind of a byte -/
def kd (m : Nat) : Nat :=
  if (65 ≤ m ∧ m ≤ 90) ∨ (97 ≤ m ∧ m ≤ 122) then 3
  else if 48 ≤ m ∧ m ≤ 57 then 4
  else if m = 32 ∨ m = 9 ∨ m = 13 ∨ m = 10 then 1
  else if m = 35 then 2
  else if m = 40 ∨ m = 41 ∨ m = 44 ∨ m = 59 ∨ m = 47 ∨ m = 45 then 5
  else if m = 58 then 6 else 0
theorem kd_letter (m : Nat) : kd m = 3 ↔ ((65 ≤ m ∧ m ≤ 90) ∨ (97 ≤ m ∧ m ≤ 122)) := by
  unfold kd; (repeat' split) <;> omega
theorem kd_digit (m : Nat) : kd m = 4 ↔ (48 ≤ m ∧ m ≤ 57) := by
  unfold kd; (repeat' split) <;> omega
theorem kd_blank (m : Nat) : kd m = 1 ↔ (m = 32 ∨ m = 9 ∨ m = 13 ∨ m = 10) := by
  unfold kd; (repeat' split) <;> omega
theorem kd_hash (m : Nat) : kd m = 2 ↔ m = 35 := by
  unfold kd; (repeat' split) <;> omega
theorem kd_sign (m : Nat) : kd m = 5 ↔ (m = 40 ∨ m = 41 ∨ m = 44 ∨ m = 59 ∨ m = 47 ∨ m = 45) := by
  unfold kd; (repeat' split) <;> omega
theorem kd_colon (m : Nat) : kd m = 6 ↔ m = 58 := by
  unfold kd; (repeat' split) <;> omega
theorem kd_le (m : Nat) : kd m ≤ 6 := by
  unfold kd; (repeat' split) <;> omega

/-- how many leading bytes are of these kinds -/
def span (ks : List Nat) : List UInt8 → Nat
  | [] => 0
  | c :: r => if kd c.toNat ∈ ks then span ks r + 1 else 0
theorem span_nil (ks : List Nat) : span ks [] = 0 := rfl
theorem span_yes {ks : List Nat} {c : UInt8} (h : kd c.toNat ∈ ks) (r : List UInt8) : span ks (c :: r) = span ks r + 1 := if_pos h
theorem span_no {ks : List Nat} {c : UInt8} (h : kd c.toNat ∉ ks) (r : List UInt8) : span ks (c :: r) = 0 := if_neg h
theorem span_le (ks : List Nat) : ∀ r, span ks r ≤ r.length
  | [] => Nat.le_refl _
  | c :: r => by
    have := span_le ks r
    by_cases h : kd c.toNat ∈ ks
    · rw [span_yes h]; simpa using this
    · rw [span_no h]; exact Nat.zero_le _
theorem span_stop (ks : List Nat) : ∀ (r : List UInt8) (h : span ks r < r.length), kd (r[span ks r]'h).toNat ∉ ks
  | [], h => by simp [span] at h
  | c :: r, h => by
    by_cases hc : kd c.toNat ∈ ks
    · have e := span_yes hc r
      have h' : span ks r < r.length := by rw [e] at h; simpa using h
      have := span_stop ks r h'
      simp only [e, List.getElem_cons_succ]
      exact this
    · have e := span_no hc r
      simp only [e, List.getElem_cons_zero]
      exact hc

/-- how many leading bytes are no line feed -/
def nl : List UInt8 → Nat
  | [] => 0
  | c :: r => if c.toNat = 10 then 0 else nl r + 1
theorem nl_le : ∀ r, nl r ≤ r.length
  | [] => Nat.le_refl _
  | c :: r => by
    have := nl_le r
    unfold nl
    split <;> simp <;> omega
/-- how many leading bytes are blanks and comments, first in a comment or not -/
def sk : Bool → List UInt8 → Nat
  | _, [] => 0
  | true, c :: r => (if c.toNat = 10 then sk false r else sk true r) + 1
  | false, c :: r => if kd c.toNat = 1 then sk false r + 1 else if kd c.toNat = 2 then sk true r + 1 else 0
theorem sk_nil (b : Bool) : sk b [] = 0 := by cases b <;> rfl
theorem sk_le : ∀ (b : Bool) r, sk b r ≤ r.length
  | b, [] => by rw [sk_nil]; exact Nat.zero_le _
  | true, c :: r => by
    have h1 := sk_le false r
    have h2 := sk_le true r
    unfold sk
    split <;> simp <;> omega
  | false, c :: r => by
    have h1 := sk_le false r
    have h2 := sk_le true r
    unfold sk
    split
    · simp; omega
    · split <;> simp; omega
theorem sk_blank {c : UInt8} (h : kd c.toNat = 1) (r : List UInt8) : sk false (c :: r) = sk false r + 1 := if_pos h
theorem sk_hash {c : UInt8} (h : kd c.toNat = 2) (r : List UInt8) : sk false (c :: r) = sk true r + 1 := by
  show (if _ then _ else _) = _
  rw [if_neg (by omega), if_pos h]
theorem sk_none {c : UInt8} (h1 : kd c.toNat ≠ 1) (h2 : kd c.toNat ≠ 2) (r : List UInt8) : sk false (c :: r) = 0 := by
  show (if _ then _ else _) = _
  rw [if_neg h1, if_neg h2]
theorem sk_in {c : UInt8} (h : c.toNat ≠ 10) (r : List UInt8) : sk true (c :: r) = sk true r + 1 := by
  show (if _ then _ else _) + 1 = _
  rw [if_neg h]
theorem sk_feed {c : UInt8} (h : c.toNat = 10) (r : List UInt8) : sk true (c :: r) = sk false (c :: r) := by
  show (if _ then _ else _) + 1 = _
  rw [if_pos h, sk_blank ((kd_blank _).2 (by omega))]
theorem sk_hash' {c : UInt8} (h : kd c.toNat = 2) (r : List UInt8) : sk false (c :: r) = sk true (c :: r) := by
  have : c.toNat ≠ 10 := by have := (kd_hash _).1 h; omega
  rw [sk_hash h, sk_in this]
theorem sk_span : ∀ r : List UInt8, sk false r = span [1] r + sk false (r.drop (span [1] r))
  | [] => rfl
  | c :: r => by
    by_cases h : kd c.toNat = 1
    · rw [sk_blank h, span_yes (by simp [h]), List.drop_succ_cons]
      have := sk_span r
      omega
    · rw [span_no (by simp [h])]; simp
theorem sk_nl : ∀ r : List UInt8, sk true r = nl r + sk false (r.drop (nl r))
  | [] => rfl
  | c :: r => by
    by_cases h : c.toNat = 10
    · have : nl (c :: r) = 0 := if_pos h
      rw [this, sk_feed h]; simp
    · have : nl (c :: r) = nl r + 1 := if_neg h
      rw [this, sk_in h, List.drop_succ_cons]
      have := sk_nl r
      omega
/-- what follows is neither a blank nor a comment -/
theorem sk_end : ∀ (b : Bool) (r : List UInt8) (h : sk b r < r.length), kd (r[sk b r]'h).toNat ≠ 1 ∧ kd (r[sk b r]'h).toNat ≠ 2
  | b, [], h => by simp at h
  | true, c :: r, h => by
    by_cases hc : c.toNat = 10
    · have e : sk true (c :: r) = sk false r + 1 := by rw [sk_feed hc, sk_blank ((kd_blank _).2 (by omega))]
      have h' : sk false r < r.length := by rw [e] at h; simpa using h
      simp only [e, List.getElem_cons_succ]
      exact sk_end false r h'
    · have e := sk_in hc r
      have h' : sk true r < r.length := by rw [e] at h; simpa using h
      simp only [e, List.getElem_cons_succ]
      exact sk_end true r h'
  | false, c :: r, h => by
    by_cases h1 : kd c.toNat = 1
    · have e := sk_blank h1 r
      have h' : sk false r < r.length := by rw [e] at h; simpa using h
      simp only [e, List.getElem_cons_succ]
      exact sk_end false r h'
    · by_cases h2 : kd c.toNat = 2
      · have e := sk_hash h2 r
        have h' : sk true r < r.length := by rw [e] at h; simpa using h
        simp only [e, List.getElem_cons_succ]
        exact sk_end true r h'
      · have e := sk_none h1 h2 r
        simp only [e, List.getElem_cons_zero]
        exact ⟨h1, h2⟩

/-- a token: kind, length, error -/
structure Tk where
  k : Nat
  n : Nat
  e : Nat
def nameTk (n : Nat) : Tk := ⟨1, n, if 20 < n then 4 else 0⟩
def numTk (z : Bool) (n : Nat) : Tk := ⟨2, n, if z = true ∧ 1 < n then 5 else if 1000 < n then 4 else 0⟩
def tokAt : List UInt8 → Tk
  | [] => ⟨3, 1, 5⟩
  | c :: r =>
    if kd c.toNat = 3 then nameTk (span [3, 4] (c :: r))
    else if kd c.toNat = 4 then numTk (decide (c.toNat = 48)) (span [4] (c :: r))
    else if kd c.toNat = 5 then ⟨3, 1, 0⟩
    else if kd c.toNat = 6 ∧ r.head? = some 61 then ⟨3, 2, 0⟩
    else ⟨3, 1, 5⟩
theorem tok_name {c : UInt8} (h : kd c.toNat = 3) (r : List UInt8) : tokAt (c :: r) = nameTk (span [3, 4] (c :: r)) := if_pos h
theorem tok_num {c : UInt8} (h : kd c.toNat = 4) (r : List UInt8) : tokAt (c :: r) = numTk (decide (c.toNat = 48)) (span [4] (c :: r)) := by
  show (if _ then _ else _) = _; rw [if_neg (by omega), if_pos h]
theorem tok_sign {c : UInt8} (h : kd c.toNat = 5) (r : List UInt8) : tokAt (c :: r) = ⟨3, 1, 0⟩ := by
  show (if _ then _ else _) = _; rw [if_neg (by omega), if_neg (by omega), if_pos h]
theorem tok_colon {c : UInt8} (h : kd c.toNat = 6) {r : List UInt8} (h2 : r.head? = some 61) : tokAt (c :: r) = ⟨3, 2, 0⟩ := by
  show (if _ then _ else _) = _; rw [if_neg (by omega), if_neg (by omega), if_neg (by omega), if_pos ⟨h, h2⟩]
theorem tok_bad {c : UInt8} {r : List UInt8} (h3 : kd c.toNat ≠ 3) (h4 : kd c.toNat ≠ 4) (h5 : kd c.toNat ≠ 5) (h6 : kd c.toNat = 6 → r.head? ≠ some 61) : tokAt (c :: r) = ⟨3, 1, 5⟩ := by
  show (if _ then _ else _) = _; rw [if_neg h3, if_neg h4, if_neg h5, if_neg (fun h => h6 h.1 h.2)]
theorem tok_pos : ∀ r : List UInt8, 0 < (tokAt r).n
  | [] => by decide
  | c :: r => by
    by_cases h3 : kd c.toNat = 3
    · rw [tok_name h3, span_yes (by simp [h3])]; exact Nat.succ_pos _
    by_cases h4 : kd c.toNat = 4
    · rw [tok_num h4, span_yes (by simp [h4])]; exact Nat.succ_pos _
    by_cases h5 : kd c.toNat = 5
    · rw [tok_sign h5]; decide
    by_cases h6 : kd c.toNat = 6 ∧ r.head? = some 61
    · rw [tok_colon h6.1 h6.2]; decide
    rw [tok_bad h3 h4 h5 (fun h h' => h6 ⟨h, h'⟩)]; decide
theorem tok_len : ∀ r : List UInt8, r ≠ [] → (tokAt r).n ≤ r.length
  | [], h => absurd rfl h
  | c :: r, _ => by
    by_cases h3 : kd c.toNat = 3
    · rw [tok_name h3]; exact span_le _ _
    by_cases h4 : kd c.toNat = 4
    · rw [tok_num h4]; exact span_le _ _
    by_cases h5 : kd c.toNat = 5
    · rw [tok_sign h5]; simp
    by_cases h6 : kd c.toNat = 6 ∧ r.head? = some 61
    · rw [tok_colon h6.1 h6.2]
      cases r with
      | nil => simp at h6
      | cons d r => simp
    rw [tok_bad h3 h4 h5 (fun h h' => h6 ⟨h, h'⟩)]; simp

/-- tokens from i on: kind, offset and length of each; or the offset of the first error, and the error -/
abbrev Res := List (Nat × Nat × Nat) × Nat × Nat
def glue (t : Nat × Nat × Nat) (r : Res) : Res := (if r.2.2 = 0 then t :: r.1 else [], r.2)
def lexW (l : List UInt8) (i : Nat) : Res :=
  if h : i < l.length then
    if (tokAt (l.drop i)).e = 0 then
      glue ((tokAt (l.drop i)).k, i, (tokAt (l.drop i)).n) (lexW l (i + (tokAt (l.drop i)).n + sk false (l.drop (i + (tokAt (l.drop i)).n))))
    else ([], i, (tokAt (l.drop i)).e)
  else ([(0, l.length, 0)], 0, 0)
termination_by l.length - i
decreasing_by have := tok_pos (l.drop i); omega
theorem lexW_end {l : List UInt8} {i : Nat} (h : l.length ≤ i) : lexW l i = ([(0, l.length, 0)], 0, 0) := by
  rw [lexW, dif_neg (by omega)]
theorem lexW_bad {l : List UInt8} {i : Nat} (h : i < l.length) (h2 : (tokAt (l.drop i)).e ≠ 0) : lexW l i = ([], i, (tokAt (l.drop i)).e) := by
  rw [lexW, dif_pos h, if_neg h2]
theorem lexW_ok {l : List UInt8} {i : Nat} (h : i < l.length) (h2 : (tokAt (l.drop i)).e = 0) :
    lexW l i = glue ((tokAt (l.drop i)).k, i, (tokAt (l.drop i)).n) (lexW l (i + (tokAt (l.drop i)).n + sk false (l.drop (i + (tokAt (l.drop i)).n)))) := by
  rw [lexW, dif_pos h, if_pos h2]
/-- what is returned, where these tokens have been met -/
def fin (acc : List (Nat × Nat × Nat)) (r : Res) : Res := (if r.2.2 = 0 then acc ++ r.1 else [], r.2)
theorem fin_glue (acc : List (Nat × Nat × Nat)) (t : Nat × Nat × Nat) (r : Res) : fin acc (glue t r) = fin (acc ++ [t]) r := by
  unfold fin glue
  split <;> simp_all
theorem fin_end (acc : List (Nat × Nat × Nat)) (n : Nat) : fin acc ([(0, n, 0)], 0, 0) = (acc ++ [(0, n, 0)], 0, 0) := rfl
theorem fin_bad (acc : List (Nat × Nat × Nat)) (i e : Nat) (h : e ≠ 0) : fin acc ([], i, e) = ([], i, e) := by
  unfold fin
  rw [if_neg h]
/-- all tokens -/
def lexAll (l : List UInt8) : Res := if 20000 < l.length then ([], 0, 4) else fin [] (lexW l (sk false l))

/-- the cells of a token -/
def cells (l : List UInt8) (t : Nat × Nat × Nat) : List Go.Value := [.int .i64 (t.1 : Nat), .int .i64 (t.2.1 : Nat), .int .i64 ((t.2.1 + t.2.2 : Nat)), .string ⟨((l.drop t.2.1).take t.2.2).toArray⟩]
theorem cells_len (l : List UInt8) (t : Nat × Nat × Nat) : (cells l t).length = 4 := rfl
end Lx

set_option linter.unusedVariables false
set_option linter.unusedSimpArgs false
namespace Go.Proofs.Ytdmlcddieadelaa
open Go.RowKit _root_.Nm Lx

theorem gcl {W w1 : World} (hb : W.grownBy w1 none) : ∀ b o, b < W.heap.size → w1.cell? ⟨b, o, none⟩ = W.cell? ⟨b, o, none⟩ := fun b o h => World.cell?_of_block (hb.block b h (by simp))
theorem gfl {W w1 : World} (hb : W.grownBy w1 none) : ∀ b o, b < W.heap.size → w1.frozen? ⟨b, o, none⟩ = W.frozen? ⟨b, o, none⟩ := fun b o h => World.frozen?_of_block (hb.block b h (by simp))
theorem ret_i {a b : Nat} (h : a = b) : Ending.returned (.int .i64 (a : Int)) = .returned (.int .i64 (b : Int)) := by rw [h]
theorem ret_d {b : Bool} {p : Prop} [Decidable p] (h : b = true ↔ p) : Ending.returned (.bool b) = .returned (.bool (decide p)) := by
  rw [show b = decide p from by cases b <;> simp_all]
theorem ret_b {a b : Bool} (h : a = b) : Ending.returned (.bool a) = .returned (.bool b) := by rw [h]

theorem kd_val {m k : Nat} (h : ((65 ≤ m ∧ m ≤ 90 ∨ 97 ≤ m ∧ m ≤ 122) ∧ k = 3) ∨ ((48 ≤ m ∧ m ≤ 57) ∧ k = 4) ∨ ((m = 32 ∨ m = 9 ∨ m = 13 ∨ m = 10) ∧ k = 1) ∨ (m = 35 ∧ k = 2) ∨
    ((m = 40 ∨ m = 41 ∨ m = 44 ∨ m = 59 ∨ m = 47 ∨ m = 45) ∧ k = 5) ∨ (m = 58 ∧ k = 6) ∨
    (¬ (65 ≤ m ∧ m ≤ 90 ∨ 97 ≤ m ∧ m ≤ 122) ∧ ¬ (48 ≤ m ∧ m ≤ 57) ∧ ¬ (m = 32 ∨ m = 9 ∨ m = 13 ∨ m = 10) ∧ m ≠ 35 ∧ ¬ (m = 40 ∨ m = 41 ∨ m = 44 ∨ m = 59 ∨ m = 47 ∨ m = 45) ∧ m ≠ 58 ∧ k = 0)) : k = kd m := by
  unfold kd; (repeat' split) <;> omega

set_option maxHeartbeats 2000000 in
theorem kindOf_any (m : Nat) (hm : m < 256) (w : World) : Calls Try.prog 73 #[.int .u8 (m : Int)] w fun e w' => e = .returned (.int .i64 (kd m : Nat)) ∧ w = w' := by
  go_enter Try.func73, Try.ntmps73
  go_wp2_with fail
  all_goals
    go_ret
    refine ⟨ret_i (kd_val ?_), rfl⟩
    simp_all
    try omega

set_option maxHeartbeats 2000000 in
theorem letter_any (m : Nat) (hm : m < 256) (w : World) : Calls Try.prog 81 #[.int .u8 (m : Int)] w fun e w' => e = .returned (.bool (decide (kd m = 3))) ∧ w = w' := by
  have HK := hid (kd_letter m)
  go_enter Try.func81, Try.ntmps81
  go_wp2_with fail
  all_goals
    go_ret
    refine ⟨ret_d ?_, rfl⟩
    rw [HK.out]
    clear HK
    simp_all
    try omega
set_option maxHeartbeats 2000000 in
theorem lxDigit_any (m : Nat) (hm : m < 256) (w : World) : Calls Try.prog 82 #[.int .u8 (m : Int)] w fun e w' => e = .returned (.bool (decide (kd m = 4))) ∧ w = w' := by
  have HK := hid (kd_digit m)
  go_enter Try.func82, Try.ntmps82
  go_wp2_with fail
  all_goals
    go_ret
    refine ⟨ret_d ?_, rfl⟩
    rw [HK.out]
    clear HK
    simp_all
    try omega

/-- where a number stands in a list, its length where it doesn't -/
def pos (m : Nat) : List Nat → Nat
  | [] => 0
  | x :: l => if m = x then 0 else pos m l + 1
set_option maxHeartbeats 2000000 in
theorem index_any (p : Option Addr) (n c : Nat) (xs : List Nat) (m : Nat) (w : World) (h : IRd w .i64 p n c xs) :
    Calls Try.prog 109 #[.slice p n c, .int .i64 (m : Int)] w fun e w' => ∃ i : Int, e = .returned (.int .i64 i) ∧ (0 ≤ i ↔ m ∈ xs) ∧ w = w' := by
  have hl := h.len
  have hc := h.cap
  have hm := h.max
  have HR := hid h
  clear h
  go_enter Try.func109, Try.ntmps109
  go_wp2_with fail
  go_loop [8] (fun i => ∃ k : Nat, k ≤ n ∧ i = .int .i64 k ∧ Hid (∀ j (h : j < xs.length), j < k → xs[j] ≠ m)) (fun i => n - (intOf i).toNat)
  case atStart => exact ⟨0, Nat.zero_le _, rfl, hid fun j h hj => by omega⟩
  case round =>
    obtain ⟨k, hk, rfl, HC⟩ := hrel
    by_cases hlt : k < n
    · obtain ⟨b, o, rfl, hcell⟩ := HR.out.cel k (by omega)
      obtain ⟨x, hx⟩ : ∃ x, x = xs[k]'(by omega) := ⟨_, rfl⟩
      rw [← hx] at hcell
      have HX := hid hx
      clear hx
      by_cases hxm : m = x
      · have HM : Hid (m ∈ xs) := hid (by rw [hxm, HX.out]; exact List.getElem_mem _)
        subst hxm
        go_wp2_with fail
        go_ret
        exact ⟨k, rfl, ⟨fun _ => HM.out, fun _ => by omega⟩, rfl⟩
      · have hne : ((m : Int) == (x : Int)) = false := by simpa using (by omega : ¬ (m : Int) = (x : Int))
        have HN : Hid (∀ j (h : j < xs.length), j < k + 1 → xs[j] ≠ m) := hid fun j h hj => by
          by_cases hjk : j = k
          · subst hjk; rw [← HX.out]; exact fun e => hxm e.symm
          · exact HC.out j h (by omega)
        clear hxm
        go_wp2_with fail
        exact ⟨⟨k + 1, by omega, rfl, HN⟩, by simp [intOf]; omega⟩
    · obtain rfl : k = n := by omega
      have HN : Hid (m ∉ xs) := hid fun hmem => by
        obtain ⟨j, hj, e⟩ := List.getElem_of_mem hmem
        exact HC.out j hj (by omega) e
      go_wp2_with fail
      go_ret
      exact ⟨-1, rfl, ⟨fun h => by omega, fun h => absurd h HN.out⟩, rfl⟩
set_option maxHeartbeats 2000000 in
theorem contains_any (p : Option Addr) (n c : Nat) (xs : List Nat) (m : Nat) (w : World) (h : IRd w .i64 p n c xs) :
    Calls Try.prog 98 #[.slice p n c, .int .i64 (m : Int)] w fun e w' => e = .returned (.bool (decide (m ∈ xs))) ∧ w = w' := by
  have HC := hid (index_any p n c xs m w h)
  clear h
  go_enter Try.func98, Try.ntmps98
  go_wp2_with fail
  refine HC.out.mono ?_
  rintro e w' ⟨i, rfl, hi, rfl⟩
  have HI := hid hi
  clear hi
  go_wp2_with fail
  go_ret
  exact ⟨ret_b (decide_eq_decide.2 HI.out), rfl⟩

theorem idx_at (s : ByteArray) (l : List UInt8) (hl : s.data.toList = l) (k : Nat) (hk : k < l.length) (w : World) :
    (Instr.index 9 (.string s) (.int .i64 (k : Int))).run Try.prog w = .ok (.int .u8 (l[k].toNat : Int)) w := by
  subst hl
  have hs : k < s.size := by rw [Lib.size_eq]; exact hk
  rw [run_index_string w 9 s .i64 (k : Int) (by kernel_rfl), dif_pos ⟨by omega, by omega⟩]
  simp only [Int.toNat_natCast]
  rfl

theorem u8_lt (c : UInt8) : c.toNat < 256 := c.toNat_lt
set_option maxHeartbeats 2000000 in
theorem run_any (s : ByteArray) (l : List UInt8) (hl : s.data.toList = l) (hmax : l.length ≤ 9223372036854775807) (i : Nat) (hi : i ≤ l.length) (p : Option Addr) (n c : Nat) (ks : List Nat) (w : World) (h : IRd w .i64 p n c ks) :
    Calls Try.prog 74 #[.string s, .int .i64 (i : Int), .slice p n c] w fun e w' => e = .returned (.int .i64 ((i + span ks (l.drop i) : Nat) : Int)) ∧ w = w' := by
  have hsz : s.size = l.length := by rw [Lib.size_eq, hl]
  have HIX := hid (idx_at s l hl)
  have HR := hid h
  obtain ⟨T, hT⟩ : ∃ T, i + span ks (l.drop i) = T := ⟨_, rfl⟩
  rw [hT]
  have HT := hid hT
  clear hl h hT
  go_enter Try.func74, Try.ntmps74
  go_wp2_with fail
  go_loop [1] (fun x => ∃ k : Nat, k ≤ l.length ∧ x = .int .i64 k ∧ Hid (k + span ks (l.drop k) = T)) (fun x => l.length - (intOf x).toNat)
  case atStart => exact ⟨i, hi, rfl, HT⟩
  case round =>
    obtain ⟨k, hk, rfl, HC⟩ := hrel
    by_cases hlt : k < l.length
    · have hix := HIX.out k hlt
      have hd : l.drop k = l[k] :: l.drop (k + 1) := List.drop_eq_getElem_cons hlt
      obtain ⟨ch, hc⟩ : ∃ ch, ch = l[k] := ⟨_, rfl⟩
      rw [← hc] at hix hd
      have HD := hid hd
      clear hc hd
      have HKO := hid (kindOf_any ch.toNat (u8_lt ch))
      by_cases hin : kd ch.toNat ∈ ks
      · have HS : Hid (k + 1 + span ks (l.drop (k + 1)) = T) := hid (by have := HC.out; rw [HD.out, span_yes hin] at this; omega)
        have HCT := hid fun w (h : IRd w .i64 p n c ks) => (decide_eq_true hin ▸ contains_any p n c ks (kd ch.toNat) w h)
        clear hin
        go_wp2_with (first | (go_at_call 73; refine (HKO.out _).mono ?_; rintro e w' ⟨rfl, rfl⟩) | (go_at_call 98; refine (HCT.out _ HR.out).mono ?_; rintro e w' ⟨rfl, rfl⟩))
        exact ⟨⟨k + 1, by omega, rfl, HS⟩, by simp [intOf]; omega⟩
      · have HS : Hid (k = T) := hid (by have := HC.out; rw [HD.out, span_no hin] at this; omega)
        have HCT := hid fun w (h : IRd w .i64 p n c ks) => (decide_eq_false hin ▸ contains_any p n c ks (kd ch.toNat) w h)
        clear hin
        go_wp2_with (first | (go_at_call 73; refine (HKO.out _).mono ?_; rintro e w' ⟨rfl, rfl⟩) | (go_at_call 98; refine (HCT.out _ HR.out).mono ?_; rintro e w' ⟨rfl, rfl⟩))
        go_ret
        exact ⟨ret_i HS.out, rfl⟩
    · obtain rfl : k = l.length := by omega
      have HS : Hid (l.length = T) := hid (by have := HC.out; rw [List.drop_of_length_le (Nat.le_refl _), span_nil] at this; omega)
      go_wp2_with fail
      go_ret
      exact ⟨ret_i HS.out, rfl⟩
end Go.Proofs.Ytdmlcddieadelaa

set_option linter.unusedVariables false
set_option linter.unusedSimpArgs false
namespace Go.Proofs.Ytdmlcddieadelaa
open Go.RowKit _root_.Nm Lx


theorem idx_nl : ∀ r : List UInt8, (Lib.indexByte r 10 = -1 ∧ nl r = r.length) ∨ (Lib.indexByte r 10 = (nl r : Nat))
  | [] => .inl ⟨rfl, rfl⟩
  | c :: r => by
    have ih := idx_nl r
    by_cases h : c.toNat = 10
    · have hc : c = 10 := UInt8.toNat_inj.1 h
      right
      have e1 : nl (c :: r) = 0 := if_pos h
      have e2 : Lib.indexByte (c :: r) 10 = 0 := by subst hc; rfl
      rw [e1, e2]; rfl
    · have hc : (c == 10) = false := by
        cases e : c == 10 with
        | false => rfl
        | true => exact absurd (by rw [eq_of_beq e]; rfl) h
      have e1 : nl (c :: r) = nl r + 1 := if_neg h
      have e2 : Lib.indexByte (c :: r) 10 = if Lib.indexByte r 10 == -1 then -1 else Lib.indexByte r 10 + 1 := by
        show (if c == 10 then _ else _) = _
        rw [hc]; rfl
      rcases ih with ⟨i1, i2⟩ | i1
      · left; rw [e1, e2, i1, i2]; exact ⟨rfl, rfl⟩
      · right
        rw [e1, e2, i1]
        have : (((nl r : Nat) : Int) == -1) = false := by
          cases e : (((nl r : Nat) : Int) == -1) with
          | false => rfl
          | true => have := eq_of_beq e; omega
        rw [this]; simp

theorem slice_f (s : ByteArray) (l : List UInt8) (hl : s.data.toList = l) (k : Nat) (hk : k ≤ l.length) (w : World) :
    (Instr.slice 9 (.string s) (some (.int .i64 (k : Int))) none none).run Try.prog w = .ok (.string ⟨(l.drop k).toArray⟩) w := by
  subst hl
  have hk' : k ≤ s.size := by rw [Lib.size_eq]; exact hk
  rw [run_slice_string_from_if w 9 s .i64 (k : Int) (by kernel_rfl), if_pos ⟨by omega, by omega⟩, Int.toNat_natCast, Lib.extract_eq]
  rw [List.take_of_length_le]
  rw [List.length_drop, Lib.size_eq]; omega


theorem one_k (w : World) (T : TypeId) (k : Nat) : IRd (w.alloc (.cells #[.int .i64 (k : Int)] T)) .i64 (some ⟨w.heap.size, 0, none⟩) 1 1 [k] := by
  have := (IRow.made w T .i64 [k]).rd0 (by simp)
  simpa using this

end Go.Proofs.Ytdmlcddieadelaa

set_option linter.unusedVariables false
set_option linter.unusedSimpArgs false
namespace Go.Proofs.Ytdmlcddieadelaa
open Go.RowKit _root_.Nm Lx

end Go.Proofs.Ytdmlcddieadelaa

set_option linter.unusedVariables false
set_option linter.unusedSimpArgs false
namespace Go.Proofs.Ytdmlcddieadelaa
open Go.RowKit _root_.Nm Lx

theorem slice_r (s : ByteArray) (l : List UInt8) (hl : s.data.toList = l) (i n : Nat) (hk : i + n ≤ l.length) (x : Int) (hx : x = ((i + n : Nat) : Int)) (w : World) :
    (Instr.slice 9 (.string s) (some (.int .i64 (i : Int))) (some (.int .i64 x)) none).run Try.prog w = .ok (.string ⟨((l.drop i).take n).toArray⟩) w := by
  subst hl hx
  have hk' : i + n ≤ s.size := by rw [Lib.size_eq]; exact hk
  rw [run_slice_string w 9 s .i64 .i64 (i : Int) ((i + n : Nat) : Int) (by kernel_rfl) (by omega) (by omega) (by omega), Int.toNat_natCast, Int.toNat_natCast, Lib.extract_eq, show i + n - i = n by omega]

/-- a token, or an error -/
def NxP (l : List UInt8) (i : Nat) (t : Tk) (w : World) (e : Ending) (w' : World) : Prop :=
  (∃ (a b c : Int) (d : ByteArray), e = .returned (.tuple #[.agg #[.int .i64 a, .int .i64 b, .int .i64 c, .string d], .int .i64 (t.e : Nat)]) ∧ (t.e = 0 → [Value.int .i64 a, .int .i64 b, .int .i64 c, .string d] = cells l (t.k, i, t.n))) ∧ w.grownBy w' none
theorem NxP.bad {l : List UInt8} {i : Nat} {t : Tk} {w w' : World} {k : Nat} (h : t.e = k) (hk : k ≠ 0) (hg : w.grownBy w' none) (a b c : Int) (d : ByteArray) : NxP l i t w (.returned (.tuple #[.agg #[.int .i64 a, .int .i64 b, .int .i64 c, .string d], .int .i64 (k : Int)])) w' := by
  subst h
  exact ⟨⟨a, b, c, d, rfl, fun e => absurd e hk⟩, hg⟩
theorem NxP.ok {l : List UInt8} {i : Nat} {t : Tk} {w w' : World} (h : t.e = 0) (hg : w.grownBy w' none) {a b c : Int} {d : ByteArray} (hc : [Value.int .i64 a, .int .i64 b, .int .i64 c, .string d] = cells l (t.k, i, t.n)) : NxP l i t w (.returned (.tuple #[.agg #[.int .i64 a, .int .i64 b, .int .i64 c, .string d], .int .i64 0])) w' :=
  ⟨⟨a, b, c, d, by rw [h]; rfl, fun _ => hc⟩, hg⟩


theorem kinds2 (w : World) (T : TypeId) (b : Nat) (hb : b = w.heap.size) : IRd (w.alloc (.cells #[.int .i64 3, .int .i64 4] T)) .i64 (some ⟨b, 0, none⟩) 2 2 [3, 4] := by
  subst hb
  exact (IRow.made w T .i64 [3, 4]).rd0 (by simp)
theorem kinds1 (w : World) (T : TypeId) (b : Nat) (hb : b = w.heap.size) : IRd (w.alloc (.cells #[.int .i64 4] T)) .i64 (some ⟨b, 0, none⟩) 1 1 [4] := by
  subst hb
  exact (IRow.made w T .i64 [4]).rd0 (by simp)
theorem run_j (s : ByteArray) (l : List UInt8) (hl : s.data.toList = l) (hmax : l.length ≤ 9223372036854775807) (i : Nat) (hi : i ≤ l.length) (p : Option Addr) (n c : Nat) (ks : List Nat) (j : Nat) (hj : j = i + span ks (l.drop i)) (w : World) (h : IRd w .i64 p n c ks) :
    Calls Try.prog 74 #[.string s, .int .i64 (i : Int), .slice p n c] w fun e w' => e = .returned (.int .i64 (j : Int)) ∧ w = w' := by
  subst hj
  exact run_any s l hl hmax i hi p n c ks w h

end Go.Proofs.Ytdmlcddieadelaa

set_option linter.unusedVariables false
namespace Go.Proofs.Ytdmlcddieadelaa
open Go.Shelf Go.RowKit _root_.Nm
set_option maxRecDepth 100000
def lxRen2 : Ren := ⟨fun n => match n with
    | 26 => 75
    | 33 => 99
    | 34 => 100
    | 38 => 110
    | n => n,
  fun n => match n with
    | 0 => 0
    | 3 => 3
    | 4 => 4
    | 9 => 9
    | 24 => 38
    | 40 => 126
    | n => n,
  fun n => n⟩
theorem lx26 : Lays2.n26 Try.prog lxRen2 where
  mixed := by kernel_rfl
  f26 := by kernel_rfl
  f33 := by kernel_rfl
  f34 := by kernel_rfl
  f38 := by kernel_rfl
  t0 := by kernel_rfl
  a0 := fun _ => by kernel_rfl
  z0 := fun _ => by kernel_rfl
  v0 := fun _ => by kernel_rfl
  t3 := by kernel_rfl
  a3 := fun _ => by kernel_rfl
  z3 := fun _ => by kernel_rfl
  v3 := fun _ => by kernel_rfl
  t4 := by kernel_rfl
  a4 := fun _ => by kernel_rfl
  z4 := fun _ => by kernel_rfl
  v4 := fun _ => by kernel_rfl
  t9 := by kernel_rfl
  a9 := fun _ => by kernel_rfl
  z9 := fun _ => by kernel_rfl
  v9 := fun _ => by kernel_rfl
  t24 := by kernel_rfl
  a24 := fun _ => by kernel_rfl
  z24 := fun _ => by kernel_rfl
  v24 := fun _ => by kernel_rfl
  t40 := by kernel_rfl
  a40 := fun _ => by kernel_rfl
  z40 := fun _ => by kernel_rfl
  v40 := fun _ => by kernel_rfl
theorem binSearch_any (b off n c : Nat) (Sx : Nat → ByteArray) (x : ByteArray) (w : World) (hbig : n < 4611686018427387904) (hc : ∀ j, j < n → w.cell? ⟨b, off + j, none⟩ = some (.string (Sx j))) :
    Calls Try.prog 75 #[.slice (some ⟨b, off, none⟩) n c, .string x] w fun e w' =>
      e = .returned (.tuple #[.int .i64 (Lib.bsGo (fun t => Op.bytesLess (Sx t).toList x.toList) n 0 n : Nat), .bool (decide (Lib.bsGo (fun t => Op.bytesLess (Sx t).toList x.toList) n 0 n < n ∧ Sx (Lib.bsGo (fun t => Op.bytesLess (Sx t).toList x.toList) n 0 n) = x))]) ∧ ∃ q, w' = w.drewN q :=
  Any2.slices_BinarySearch_string lx26 b off n c Sx x w hbig hc
end Go.Proofs.Ytdmlcddieadelaa

set_option linter.unusedVariables false
set_option linter.unusedSimpArgs false
namespace Go.Proofs.Ytdmlcddieadelaa
open Go.RowKit _root_.Nm Lx

theorem numTk_ok {z : Bool} {n : Nat} (h1 : ¬ (z = true ∧ 1 < n)) (h2 : ¬ 1000 < n) : (numTk z n).e = 0 := by
  unfold numTk; dsimp only; rw [if_neg h1, if_neg h2]
theorem numTk_big {z : Bool} {n : Nat} (h1 : ¬ (z = true ∧ 1 < n)) (h2 : 1000 < n) : (numTk z n).e = 4 := by
  unfold numTk; dsimp only; rw [if_neg h1, if_pos h2]
theorem numTk_zero {z : Bool} {n : Nat} (h1 : z = true ∧ 1 < n) : (numTk z n).e = 5 := by
  unfold numTk; dsimp only; rw [if_pos h1]


/-- the world of next is the result's box and what its calls make -/
theorem NxP.box {l : List UInt8} {i : Nat} {t : Tk} {w w1 w' : World} {e : Ending} (h : NxP l i t w1 e w') (hg : w.grownBy w1 none) : NxP l i t w e w' :=
  ⟨h.1, grown_trans hg h.2⟩

end Go.Proofs.Ytdmlcddieadelaa

set_option linter.unusedVariables false
set_option linter.unusedSimpArgs false
namespace Go.Proofs.Ytdmlcddieadelaa
open Go.RowKit _root_.Nm Lx

/-- the token that begins with a byte that is neither a letter nor a digit -/
def sgn : List UInt8 → Tk
  | [] => ⟨3, 1, 5⟩
  | c :: r => if kd c.toNat = 5 then ⟨3, 1, 0⟩ else if kd c.toNat = 6 ∧ r.head? = some 61 then ⟨3, 2, 0⟩ else ⟨3, 1, 5⟩
theorem sgn_tok {c : UInt8} {r : List UInt8} (h3 : kd c.toNat ≠ 3) (h4 : kd c.toNat ≠ 4) : sgn (c :: r) = tokAt (c :: r) := by
  show (if _ then _ else if _ then _ else _) = (if _ then _ else if _ then _ else if _ then _ else if _ then _ else _)
  rw [if_neg h3, if_neg h4]

end Go.Proofs.Ytdmlcddieadelaa

set_option linter.unusedVariables false
set_option linter.unusedSimpArgs false
namespace Go.Proofs.Ytdmlcddieadelaa
open Go.RowKit _root_.Nm Lx

theorem letter_t {m : Nat} (hm : m < 256) (h : kd m = 3) (w : World) : Calls Try.prog 81 #[.int .u8 (m : Int)] w fun e w' => e = .returned (.bool true) ∧ w = w' :=
  (letter_any m hm w).mono fun _ _ ⟨e, r⟩ => ⟨by rw [e, decide_eq_true h], r⟩
theorem letter_f {m : Nat} (hm : m < 256) (h : kd m ≠ 3) (w : World) : Calls Try.prog 81 #[.int .u8 (m : Int)] w fun e w' => e = .returned (.bool false) ∧ w = w' :=
  (letter_any m hm w).mono fun _ _ ⟨e, r⟩ => ⟨by rw [e, decide_eq_false h], r⟩
theorem digit_t {m : Nat} (hm : m < 256) (h : kd m = 4) (w : World) : Calls Try.prog 82 #[.int .u8 (m : Int)] w fun e w' => e = .returned (.bool true) ∧ w = w' :=
  (lxDigit_any m hm w).mono fun _ _ ⟨e, r⟩ => ⟨by rw [e, decide_eq_true h], r⟩
theorem digit_f {m : Nat} (hm : m < 256) (h : kd m ≠ 4) (w : World) : Calls Try.prog 82 #[.int .u8 (m : Int)] w fun e w' => e = .returned (.bool false) ∧ w = w' :=
  (lxDigit_any m hm w).mono fun _ _ ⟨e, r⟩ => ⟨by rw [e, decide_eq_false h], r⟩

theorem blk01 (w : World) (A B : Obj) : ((w.alloc A).alloc B).heap[w.heap.size + 1]? = some B := by
  have h := blk0 (w.alloc A) B
  rw [show (w.alloc A).heap.size = w.heap.size + 1 by simp] at h
  exact h

/-- the world in the loop of word: the result's box, and the token's -/
structure WdR (w wr : World) (k i q : Nat) : Prop where
  g : w.grownBy wr none


end Go.Proofs.Ytdmlcddieadelaa

set_option linter.unusedVariables false
set_option linter.unusedSimpArgs false
namespace Lx

theorem span_take (ks : List Nat) : ∀ (r : List UInt8) (m : Nat), span ks (r.take m) = min (span ks r) m
  | [], m => by simp [span]
  | c :: r, 0 => by simp [span]
  | c :: r, m + 1 => by
    rw [List.take_succ_cons]
    by_cases h : kd c.toNat ∈ ks
    · rw [span_yes h, span_yes h, span_take ks r m]; omega
    · rw [span_no h, span_no h]; simp
theorem sk_take : ∀ (b : Bool) (r : List UInt8) (m : Nat), sk b (r.take m) = min (sk b r) m
  | b, [], m => by simp [sk_nil]
  | b, c :: r, 0 => by simp [sk_nil]
  | true, c :: r, m + 1 => by
    rw [List.take_succ_cons]
    by_cases h : c.toNat = 10
    · rw [sk_feed h, sk_feed h, sk_blank ((kd_blank _).2 (by omega)), sk_blank ((kd_blank _).2 (by omega)), sk_take false r m]; omega
    · rw [sk_in h, sk_in h, sk_take true r m]; omega
  | false, c :: r, m + 1 => by
    rw [List.take_succ_cons]
    by_cases h1 : kd c.toNat = 1
    · rw [sk_blank h1, sk_blank h1, sk_take false r m]; omega
    by_cases h2 : kd c.toNat = 2
    · rw [sk_hash h2, sk_hash h2, sk_take true r m]; omega
    · rw [sk_none h1 h2, sk_none h1 h2]; simp
theorem tok_take : ∀ (r : List UInt8) (m : Nat), (tokAt r).e = 0 → (tokAt r).n ≤ m → tokAt (r.take m) = tokAt r
  | [], m, h, _ => by simp [tokAt] at h
  | c :: r, 0, h, hn => by have := tok_pos (c :: r); omega
  | c :: r, m + 1, h, hn => by
    have ht : (c :: r).take (m + 1) = c :: r.take m := rfl
    by_cases h3 : kd c.toNat = 3
    · have e := tok_name h3 r
      rw [e] at hn
      have hn' : span [3, 4] (c :: r) ≤ m + 1 := hn
      rw [ht, tok_name h3, e, ← ht, span_take, Nat.min_eq_left hn']
    by_cases h4 : kd c.toNat = 4
    · have e := tok_num h4 r
      rw [e] at hn
      have hn' : span [4] (c :: r) ≤ m + 1 := hn
      rw [ht, tok_num h4, e, ← ht, span_take, Nat.min_eq_left hn']
    by_cases h5 : kd c.toNat = 5
    · rw [ht, tok_sign h5, tok_sign h5]
    by_cases h6 : kd c.toNat = 6 ∧ r.head? = some 61
    · have e := tok_colon h6.1 h6.2
      rw [e] at hn
      have hn' : 2 ≤ m + 1 := hn
      rw [ht, e]
      refine tok_colon h6.1 ?_
      cases r with
      | nil => simp at h6
      | cons d r =>
        obtain ⟨m', rfl⟩ : ∃ m', m = m' + 1 := ⟨m - 1, by omega⟩
        simpa using h6.2
    · rw [tok_bad h3 h4 h5 (fun h h' => h6 ⟨h, h'⟩)] at h; simp at h

theorem glue_snd (t : Nat × Nat × Nat) (r : Res) : (glue t r).2 = r.2 := rfl
theorem next_le {l : List UInt8} {i : Nat} (h : i < l.length) : i + (tokAt (l.drop i)).n ≤ l.length := by
  have := tok_len (l.drop i) (by intro e; have := congrArg List.length e; rw [List.length_drop] at this; simp at this; omega)
  rw [List.length_drop] at this
  omega
theorem skip_le {l : List UInt8} {i : Nat} (h : i ≤ l.length) (b : Bool) : i + sk b (l.drop i) ≤ l.length := by
  have := sk_le b (l.drop i)
  rw [List.length_drop] at this
  omega
/-- what stands before the first error has none -/
theorem lexW_prefix (l : List UInt8) : ∀ (k i : Nat), l.length - i ≤ k → (lexW l i).2.2 ≠ 0 → i ≤ (lexW l i).2.1 ∧ (lexW l i).2.1 < l.length ∧ (lexW (l.take (lexW l i).2.1) i).2.2 = 0 := by
  intro k
  induction k with
  | zero => intro i hk he; rw [lexW_end (by omega)] at he; exact absurd rfl he
  | succ k ih =>
    intro i hk he
    by_cases hlt : i < l.length
    · by_cases h0 : (tokAt (l.drop i)).e = 0
      · have hpos := tok_pos (l.drop i)
        have hnl := next_le hlt
        have e := lexW_ok hlt h0
        rw [e, glue_snd] at he ⊢
        obtain ⟨h1, h2, h3⟩ := ih _ (by omega) he
        generalize ha : (lexW l (i + (tokAt (l.drop i)).n + sk false (l.drop (i + (tokAt (l.drop i)).n)))).2.1 = a at h1 h2 h3 ⊢
        have hil : i < (l.take a).length := by rw [List.length_take]; omega
        have hd : (l.take a).drop i = (l.drop i).take (a - i) := by rw [List.drop_take]
        have ht : tokAt ((l.take a).drop i) = tokAt (l.drop i) := by rw [hd]; exact tok_take _ _ h0 (by omega)
        refine ⟨by omega, h2, ?_⟩
        rw [lexW_ok hil (by rw [ht]; exact h0), glue_snd, ht]
        have hd2 : (l.take a).drop (i + (tokAt (l.drop i)).n) = (l.drop (i + (tokAt (l.drop i)).n)).take (a - (i + (tokAt (l.drop i)).n)) := by rw [List.drop_take]
        rw [hd2, sk_take, Nat.min_eq_left (by omega)]
        exact h3
      · rw [lexW_bad hlt h0]
        refine ⟨Nat.le_refl _, hlt, ?_⟩
        show (lexW (l.take i) i).2.2 = 0
        rw [lexW_end (by rw [List.length_take]; omega)]
    · rw [lexW_end (by omega)] at he; exact absurd rfl he
theorem lexW_zero (l : List UInt8) : ∀ (k i : Nat), l.length - i ≤ k → (lexW l i).2.2 = 0 → (lexW l i).2.1 = 0 := by
  intro k
  induction k with
  | zero => intro i hk he; rw [lexW_end (by omega)]
  | succ k ih =>
    intro i hk he
    by_cases hlt : i < l.length
    · by_cases h0 : (tokAt (l.drop i)).e = 0
      · have hpos := tok_pos (l.drop i)
        have e := lexW_ok hlt h0
        rw [e, glue_snd] at he ⊢
        exact ih _ (by omega) he
      · rw [lexW_bad hlt h0] at he; exact absurd he h0
    · rw [lexW_end (by omega)]
theorem fin_snd (acc : List (Nat × Nat × Nat)) (r : Res) : (fin acc r).2 = r.2 := rfl
theorem lexAll_zero {l : List UInt8} (h : (lexAll l).2.2 = 0) : (lexAll l).2.1 = 0 := by
  unfold lexAll at h ⊢
  split at h
  · cases h
  · rw [if_neg (by assumption)]
    rw [fin_snd] at h ⊢
    exact lexW_zero l _ _ (Nat.le_refl _) h
theorem lexAll_prefix {l : List UInt8} (h : (lexAll l).2.2 ≠ 0) (ha : (lexAll l).2.1 ≠ 0) : (lexAll l).2.1 < l.length ∧ (lexAll (l.take (lexAll l).2.1)).2.2 = 0 := by
  by_cases hb : 20000 < l.length
  · have e : lexAll l = ([], 0, 4) := if_pos hb
    rw [e] at ha; exact absurd rfl ha
  · have e : lexAll l = fin [] (lexW l (sk false l)) := if_neg hb
    rw [e, fin_snd] at h ha ⊢
    obtain ⟨h1, h2, h3⟩ := lexW_prefix l _ _ (Nat.le_refl _) h
    refine ⟨h2, ?_⟩
    have e2 : lexAll (l.take (lexW l (sk false l)).2.1) = fin [] (lexW (l.take (lexW l (sk false l)).2.1) (sk false (l.take (lexW l (sk false l)).2.1))) := if_neg (by rw [List.length_take]; omega)
    rw [e2, fin_snd, sk_take, Nat.min_eq_left h1]
    exact h3

/-- in a comment or not, behind blanks and comments; none if there is something else -/
def br : Bool → List UInt8 → Option Bool
  | b, [] => some b
  | b, c :: r => if c.toNat = 10 then br false r else if b = true ∨ c.toNat = 32 ∨ c.toNat = 9 ∨ c.toNat = 13 then br b r else if c.toNat = 35 then br true r else none
theorem br_feed {b : Bool} {c : UInt8} (h : c.toNat = 10) (r : List UInt8) : br b (c :: r) = br false r := if_pos h
theorem br_same {b : Bool} {c : UInt8} (h : c.toNat ≠ 10) (h2 : b = true ∨ c.toNat = 32 ∨ c.toNat = 9 ∨ c.toNat = 13) (r : List UInt8) : br b (c :: r) = br b r := by
  show (if _ then _ else if _ then _ else _) = _
  rw [if_neg h, if_pos h2]
theorem br_hash {c : UInt8} (h : c.toNat = 35) (r : List UInt8) : br false (c :: r) = br true r := by
  show (if _ then _ else if _ then _ else if _ then _ else _) = _
  rw [if_neg (by omega), if_neg (fun h' => by rcases h' with h' | h' | h' | h' <;> first | (cases h'; done) | omega), if_pos h]
theorem br_none {b : Bool} {c : UInt8} (h : c.toNat ≠ 10) (h2 : ¬ (b = true ∨ c.toNat = 32 ∨ c.toNat = 9 ∨ c.toNat = 13)) (h3 : c.toNat ≠ 35) (r : List UInt8) : br b (c :: r) = none := by
  show (if _ then _ else if _ then _ else if _ then _ else _) = _
  rw [if_neg h, if_neg h2, if_neg h3]
theorem br_sk : ∀ (b : Bool) (r : List UInt8), ∃ b', br b (r.take (sk b r)) = some b' ∧ (sk b r < r.length → b' = false)
  | b, [] => ⟨b, by rw [sk_nil]; rfl, by simp⟩
  | true, c :: r => by
    by_cases h : c.toNat = 10
    · obtain ⟨b', h1, h2⟩ := br_sk false r
      rw [sk_feed h, sk_blank ((kd_blank _).2 (by omega)), List.take_succ_cons, br_feed h]
      exact ⟨b', h1, fun hl => h2 (by simpa using hl)⟩
    · obtain ⟨b', h1, h2⟩ := br_sk true r
      rw [sk_in h, List.take_succ_cons, br_same h (.inl rfl)]
      exact ⟨b', h1, fun hl => h2 (by simpa using hl)⟩
  | false, c :: r => by
    by_cases h1 : kd c.toNat = 1
    · have hb := (kd_blank _).1 h1
      obtain ⟨b', g1, g2⟩ := br_sk false r
      rw [sk_blank h1, List.take_succ_cons]
      by_cases h : c.toNat = 10
      · rw [br_feed h]; exact ⟨b', g1, fun hl => g2 (by simpa using hl)⟩
      · rw [br_same h (.inr (by omega))]; exact ⟨b', g1, fun hl => g2 (by simpa using hl)⟩
    by_cases h2 : kd c.toNat = 2
    · obtain ⟨b', g1, g2⟩ := br_sk true r
      rw [sk_hash h2, List.take_succ_cons, br_hash ((kd_hash _).1 h2)]
      exact ⟨b', g1, fun hl => g2 (by simpa using hl)⟩
    · rw [sk_none h1 h2]
      exact ⟨false, rfl, fun _ => rfl⟩

/-- tokens ascend, and leave out blanks and comments alone -/
def Cov (l : List UInt8) : Nat → List (Nat × Nat × Nat) → Prop
  | _, [] => False
  | f, [(k, i, n)] => k = 0 ∧ n = 0 ∧ i = l.length ∧ f ≤ i ∧ ∃ b, br false ((l.drop f).take (i - f)) = some b
  | f, (k, i, n) :: t :: r => k ≠ 0 ∧ 0 < n ∧ f ≤ i ∧ i + n ≤ l.length ∧ br false ((l.drop f).take (i - f)) = some false ∧ Cov l (i + n) (t :: r)
theorem tok_kind : ∀ r : List UInt8, (tokAt r).k ≠ 0
  | [] => by decide
  | c :: r => by
    by_cases h3 : kd c.toNat = 3
    · rw [tok_name h3]; show 1 ≠ 0; decide
    by_cases h4 : kd c.toNat = 4
    · rw [tok_num h4]; show 2 ≠ 0; decide
    by_cases h5 : kd c.toNat = 5
    · rw [tok_sign h5]; decide
    by_cases h6 : kd c.toNat = 6 ∧ r.head? = some 61
    · rw [tok_colon h6.1 h6.2]; decide
    rw [tok_bad h3 h4 h5 (fun h h' => h6 ⟨h, h'⟩)]; decide
theorem cov_W (l : List UInt8) : ∀ (k f : Nat), l.length - f ≤ k → f ≤ l.length → (lexW l (f + sk false (l.drop f))).2.2 = 0 → Cov l f (lexW l (f + sk false (l.drop f))).1 := by
  intro k
  induction k with
  | zero =>
    intro f hk hf he
    obtain rfl : f = l.length := by omega
    rw [lexW_end (by omega)]
    refine ⟨rfl, rfl, rfl, Nat.le_refl _, ?_⟩
    rw [List.drop_of_length_le (Nat.le_refl _)]
    exact ⟨false, by simp [br]⟩
  | succ k ih =>
    intro f hk hf he
    obtain ⟨b', hb1, hb2⟩ := br_sk false (l.drop f)
    rw [List.length_drop] at hb2
    have hsl := skip_le hf false
    obtain ⟨i, hi⟩ : ∃ i, i = f + sk false (l.drop f) := ⟨_, rfl⟩
    have hb3 : br false ((l.drop f).take (i - f)) = some b' := by rw [show i - f = sk false (l.drop f) by omega]; exact hb1
    rw [← hi] at he hsl ⊢
    by_cases hlt : i < l.length
    · have hbf := hb2 (by omega)
      subst hbf
      by_cases h0 : (tokAt (l.drop i)).e = 0
      · have hpos := tok_pos (l.drop i)
        have hnl := next_le hlt
        have e := lexW_ok hlt h0
        rw [e, glue_snd] at he
        have hc := ih (i + (tokAt (l.drop i)).n) (by omega) hnl he
        rw [e]
        unfold glue
        rw [if_pos he]
        show Cov l f (_ :: (lexW l _).1)
        generalize (lexW l (i + (tokAt (l.drop i)).n + sk false (l.drop (i + (tokAt (l.drop i)).n)))).1 = L at hc ⊢
        cases L with
        | nil => exact hc.elim
        | cons t r => exact ⟨tok_kind _, hpos, by omega, hnl, hb3, hc⟩
      · rw [lexW_bad hlt h0] at he; exact absurd he h0
    · obtain rfl : i = l.length := by omega
      rw [lexW_end (Nat.le_refl _)]
      exact ⟨rfl, rfl, rfl, by omega, b', hb3⟩
theorem cov_all {l : List UInt8} (h : (lexAll l).2.2 = 0) : Cov l 0 (lexAll l).1 := by
  by_cases hb : 20000 < l.length
  · have e : lexAll l = ([], 0, 4) := if_pos hb
    rw [e] at h; cases h
  · have e : lexAll l = fin [] (lexW l (sk false l)) := if_neg hb
    rw [e, fin_snd] at h
    have := cov_W l _ 0 (Nat.le_refl _) (Nat.zero_le _) (by simpa using h)
    rw [e]
    unfold fin
    rw [if_pos h]
    simpa using this
theorem lexAll_none {l : List UInt8} (h : (lexAll l).2.2 ≠ 0) : (lexAll l).1 = [] := by
  by_cases hb : 20000 < l.length
  · have e : lexAll l = ([], 0, 4) := if_pos hb
    rw [e]
  · have e : lexAll l = fin [] (lexW l (sk false l)) := if_neg hb
    rw [e, fin_snd] at h
    rw [e]
    unfold fin
    rw [if_neg h]

/-- points A; # all, and a line feed -/
def smp : List UInt8 := [112, 111, 105, 110, 116, 115, 32, 65, 59, 32, 35, 32, 97, 108, 108, 10]
theorem lex_smp : lexAll smp = ([(1, 0, 6), (1, 7, 1), (3, 8, 1), (0, 16, 0)], 0, 0) := by
  have e0 : lexW smp 16 = ([(0, 16, 0)], 0, 0) := lexW_end (by decide)
  have e1 : lexW smp 8 = ([(3, 8, 1), (0, 16, 0)], 0, 0) := by rw [lexW_ok (by decide) (by decide)]; exact congrArg (glue (3, 8, 1)) e0
  have e2 : lexW smp 7 = ([(1, 7, 1), (3, 8, 1), (0, 16, 0)], 0, 0) := by rw [lexW_ok (by decide) (by decide)]; exact congrArg (glue (1, 7, 1)) e1
  have e3 : lexW smp 0 = ([(1, 0, 6), (1, 7, 1), (3, 8, 1), (0, 16, 0)], 0, 0) := by rw [lexW_ok (by decide) (by decide)]; exact congrArg (glue (1, 0, 6)) e2
  have e4 : lexAll smp = fin [] (lexW smp (sk false smp)) := if_neg (by decide)
  have e5 : sk false smp = 0 := by decide
  rw [e4, e5, e3]; rfl
end Lx

set_option linter.unusedVariables false
set_option linter.unusedSimpArgs false
namespace Lx

/-- the keywords, ascending -/
def kws : List (List UInt8) := [
  [97, 110, 103, 108, 101],
  [97, 112, 101, 120],
  [98, 105, 115, 101, 99, 116, 111, 114],
  [99, 101, 110, 116, 101, 114],
  [99, 105, 114, 99, 108, 101],
  [99, 105, 114, 99, 117, 109],
  [99, 111, 108, 108, 105, 110, 101, 97, 114],
  [99, 111, 109, 109, 111, 110],
  [99, 111, 110, 99, 121, 99, 108, 105, 99],
  [99, 111, 110, 103, 114, 117, 101, 110, 116],
  [99, 114, 111, 115, 115],
  [99, 117, 116],
  [100, 105, 118, 105, 100, 101],
  [102, 111, 111, 116],
  [108, 105, 110, 101],
  [109, 101, 101, 116],
  [109, 105, 100, 112, 111, 105, 110, 116],
  [109, 105, 114, 114, 111, 114],
  [111, 110],
  [111, 116, 104, 101, 114],
  [112, 97, 114, 97, 108, 108, 101, 108],
  [112, 101, 114, 112, 101, 110, 100, 105, 99, 117, 108, 97, 114],
  [112, 111, 105, 110, 116, 115],
  [112, 114, 111, 118, 101],
  [114, 97, 116, 105, 111],
  [114, 101, 102, 108, 101, 99, 116],
  [115, 97, 109, 101],
  [115, 104, 105, 102, 116],
  [116, 117, 114, 110]]
/-- the shape of a name -/
def shp : List UInt8 → Bool
  | [] => false
  | c :: r => decide ((c :: r).length ≤ 20) && (decide (kd c.toNat = 3) && decide (span [3, 4] (c :: r) = (c :: r).length))
/-- is it a name -/
def isNm (l : List UInt8) : Bool := shp l && !(kws.contains l)
def kwAt (t : Nat) : List UInt8 := kws.getD t []
theorem kws_len : kws.length = 29 := rfl

def allB (p : Nat → Bool) : Nat → Bool
  | 0 => true
  | n + 1 => allB p n && p n
theorem allB_spec {p : Nat → Bool} : ∀ {n : Nat}, allB p n = true → ∀ i, i < n → p i = true
  | 0, _, i, h => absurd h (Nat.not_lt_zero i)
  | n + 1, h, i, hi => by
    simp only [allB, Bool.and_eq_true] at h
    by_cases e : i = n
    · subst e; exact h.2
    · exact allB_spec h.1 i (by omega)
theorem kw_find : ∀ j, j < 29 → (Go.Lib.bsGo (fun t => Go.Op.bytesLess (kwAt t) (kwAt j)) 29 0 29 == j) = true :=
  allB_spec (p := fun j => Go.Lib.bsGo (fun t => Go.Op.bytesLess (kwAt t) (kwAt j)) 29 0 29 == j) (by kernel_rfl)
theorem kw_names : ∀ j, j < 29 → isNm (kwAt j) = false := fun j h => by
  have := allB_spec (p := fun j => !(isNm (kwAt j))) (n := 29) (by kernel_rfl) j h
  simpa using this
theorem kw_more : ∀ j, j < 29 → isNm (kwAt j ++ [49]) = true := fun j h =>
  allB_spec (p := fun j => isNm (kwAt j ++ [49])) (n := 29) (by kernel_rfl) j h
theorem kw_mem {l : List UInt8} : l ∈ kws ↔ ∃ j, j < 29 ∧ kwAt j = l := by
  constructor
  · intro h
    obtain ⟨j, hj, e⟩ := List.getElem_of_mem h
    exact ⟨j, hj, by unfold kwAt; rw [List.getD_eq_getElem?_getD, List.getElem?_eq_getElem hj]; exact e⟩
  · rintro ⟨j, hj, rfl⟩
    unfold kwAt
    rw [List.getD_eq_getElem?_getD, List.getElem?_eq_getElem (show j < kws.length from hj)]
    exact List.getElem_mem _
/-- what a search by halves tells -/
theorem kw_search (l : List UInt8) : decide (Go.Lib.bsGo (fun t => Go.Op.bytesLess (kwAt t) l) 29 0 29 < 29 ∧ kwAt (Go.Lib.bsGo (fun t => Go.Op.bytesLess (kwAt t) l) 29 0 29) = l) = kws.contains l := by
  rw [List.contains_eq_mem]
  refine decide_eq_decide.2 ⟨fun h => kw_mem.2 ⟨_, h.1, h.2⟩, fun h => ?_⟩
  obtain ⟨j, hj, rfl⟩ := kw_mem.1 h
  have := eq_of_beq (kw_find j hj)
  rw [this]
  exact ⟨hj, rfl⟩
theorem shp_nil : shp [] = false := rfl
theorem shp_cons (c : UInt8) (r : List UInt8) : shp (c :: r) = (decide ((c :: r).length ≤ 20) && (decide (kd c.toNat = 3) && decide (span [3, 4] (c :: r) = (c :: r).length))) := rfl
theorem isNm_f {l : List UInt8} (h : shp l = false) : isNm l = false := by unfold isNm; rw [h]; rfl
theorem isNm_t {l : List UInt8} (h : shp l = true) : isNm l = !(kws.contains l) := by unfold isNm; rw [h]; rfl
end Lx

set_option linter.unusedVariables false
set_option linter.unusedSimpArgs false
namespace Go.Proofs.Ytdmlcddieadelaa
open Go.RowKit _root_.Nm Lx

/-- a new slice of the keywords is returned -/
def KwP (w : World) (e : Ending) (w' : World) : Prop :=
  ∃ b : Nat, e = .returned (.slice (some ⟨b, 0, none⟩) 29 29) ∧ w.heap.size ≤ b ∧ (∀ j, j < 29 → w'.cell? ⟨b, j, none⟩ = some (.string ⟨(kwAt j).toArray⟩)) ∧ w.grownBy w' none
theorem KwP.mk (w : World) (T : TypeId) (A : Array Value) (hA : A.toList = kws.map fun k => .string ⟨k.toArray⟩) : KwP w (.returned (.slice (some ⟨w.heap.size, 0, none⟩) 29 29)) (w.alloc (.cells A T)) := by
  refine ⟨w.heap.size, rfl, Nat.le_refl _, fun j hj => ?_, World.grownBy_alloc _ _ _⟩
  rw [cell_of_row _ w.heap.size j A T (0, 0) (heap_alloc_new w _), ← Array.getElem?_toList, hA, List.getElem?_map]
  unfold kwAt
  rw [List.getD_eq_getElem?_getD, List.getElem?_eq_getElem (show j < kws.length from hj)]
  rfl
set_option maxHeartbeats 2000000 in
set_option maxRecDepth 100000 in
theorem keywords_any (w : World) : Calls Try.prog 76 #[] w (KwP w) := by
  go_enter Try.func76, Try.ntmps76
  go_wp2_with fail
  go_ret
  exact KwP.mk w _ _ rfl
set_option maxHeartbeats 2000000 in
set_option maxRecDepth 100000 in
theorem rkeywords_any (w : World) : Calls Try.prog 83 #[] w (KwP w) := by
  go_enter Try.func83, Try.ntmps83
  go_wp2_with fail
  go_ret
  exact KwP.mk w _ _ rfl

theorem kinds2' (w : World) (T : TypeId) (b : Nat) (hb : b = w.heap.size) : IRd (w.alloc (.cells #[.int .i64 3, .int .i64 4] T)) .i64 (some ⟨b, 0, none⟩) 2 2 [3, 4] := kinds2 w T b hb
theorem kindOf_k (m k : Nat) (hm : m < 256) (hk : kd m = k) (w : World) : Calls Try.prog 73 #[.int .u8 (m : Int)] w fun e w' => e = .returned (.int .i64 (k : Nat)) ∧ w = w' := by
  subst hk
  exact kindOf_any m hm w
theorem run_0 (s : ByteArray) (l : List UInt8) (hl : s.data.toList = l) (hmax : l.length ≤ 9223372036854775807) (p : Option Addr) (n c : Nat) (ks : List Nat) (j : Nat) (hj : j = span ks l) (w : World) (h : IRd w .i64 p n c ks) :
    Calls Try.prog 74 #[.string s, .int .i64 0, .slice p n c] w fun e w' => e = .returned (.int .i64 (j : Int)) ∧ w = w' := by
  have := run_j s l hl hmax 0 (Nat.zero_le _) p n c ks j (by rw [hj]; simp) w h
  exact this
theorem binKw (s : ByteArray) (l : List UInt8) (hl : s.data.toList = l) (F : Bool) (hF : F = kws.contains l) (b : Nat) (w : World) (h : ∀ j, j < 29 → w.cell? ⟨b, j, none⟩ = some (.string ⟨(kwAt j).toArray⟩)) :
    Calls Try.prog 75 #[.slice (some ⟨b, 0, none⟩) 29 29, .string s] w fun e w' => ∃ I : Nat, e = .returned (.tuple #[.int .i64 (I : Nat), .bool F]) ∧ w.grownBy w' none := by
  refine (binSearch_any b 0 29 29 (fun t => ⟨(kwAt t).toArray⟩) s w (by omega) (fun j hj => by rw [Nat.zero_add]; exact h j hj)).mono ?_
  rintro e w' ⟨rfl, q, rfl⟩
  have e1 : (fun t => Op.bytesLess (⟨(kwAt t).toArray⟩ : ByteArray).toList s.toList) = fun t => Op.bytesLess (kwAt t) l := by
    funext t
    rw [Lib.toList_data, Lib.toList_data, hl]
  simp only [e1]
  refine ⟨Lib.bsGo (fun t => Op.bytesLess (kwAt t) l) 29 0 29, ?_, grown_drewN _ _ _⟩
  have e2 : F = decide (Lib.bsGo (fun t => Op.bytesLess (kwAt t) l) 29 0 29 < 29 ∧ (⟨(kwAt (Lib.bsGo (fun t => Op.bytesLess (kwAt t) l) 29 0 29)).toArray⟩ : ByteArray) = s) := by
    rw [hF, ← kw_search l]
    refine decide_eq_decide.2 ⟨fun h => ⟨h.1, ?_⟩, fun h => ⟨h.1, ?_⟩⟩
    · rw [h.2, ← hl]
    · have := congrArg (fun x : ByteArray => x.data.toList) h.2
      exact (show kwAt _ = s.data.toList from this).trans hl
  rw [e2]
theorem ne_empty {s : ByteArray} {c : UInt8} {r : List UInt8} (h : s.data.toList = c :: r) : s.toList.isEmpty = false := by
  rw [Lib.toList_data, h]; rfl

set_option maxHeartbeats 4000000 in
set_option maxRecDepth 100000 in
theorem isName_any (s : ByteArray) (l : List UInt8) (hl : s.data.toList = l) (hmax : l.length ≤ 9223372036854775807) (w : World) :
    Calls Try.prog 47 #[.string s] w fun e w' => e = .returned (.bool (isNm l)) ∧ w.grownBy w' none := by
  have hsz : s.size = l.length := by rw [Lib.size_eq, hl]
  cases l with
  | nil =>
    obtain rfl : s = ⟨#[]⟩ := by rw [← Lib.mk_data s, hl]
    have HV : Hid (isNm [] = false) := hid rfl
    clear hl hsz
    go_enter Try.func47, Try.ntmps47
    go_wp2_with fail
    go_ret
    exact ⟨ret_b HV.out.symm, grown_refl _ _⟩
  | cons c r =>
    have hemp := ne_empty hl
    have hix := idx_at s (c :: r) hl 0 (by simp)
    have hix0 : ∀ w, (Instr.index 9 (.string s) (.int .i64 0)).run Try.prog w = .ok (.int .u8 (c.toNat : Int)) w := hix
    clear hix
    obtain ⟨V, hV⟩ : ∃ V, V = isNm (c :: r) := ⟨_, rfl⟩
    rw [← hV]
    have HV := hid hV
    clear hV
    by_cases h20 : 20 < (c :: r).length
    · have HF : Hid (V = false) := hid (by rw [HV.out]; exact isNm_f (by rw [shp_cons, decide_eq_false (by omega)]; rfl))
      have hb : (20 : Int) < (((c :: r).length : Nat) : Int) := by omega
      generalize (c :: r).length = len at *
      clear hl h20 HV
      go_enter Try.func47, Try.ntmps47
      go_wp2_with fail
      go_ret
      exact ⟨ret_b HF.out.symm, grown_refl _ _⟩
    have hb : ¬ (20 : Int) < (((c :: r).length : Nat) : Int) := by omega
    by_cases h3 : kd c.toNat = 3
    rotate_left
    · have HF : Hid (V = false) := hid (by rw [HV.out]; exact isNm_f (by rw [shp_cons, decide_eq_false h3]; simp))
      obtain ⟨k, hk⟩ : ∃ k, k = kd c.toNat := ⟨_, rfl⟩
      have HK := hid fun w => kindOf_k c.toNat k (u8_lt c) hk.symm w
      have hne : ((k : Int) != 3) = true := by
        have : ((k : Int) == 3) = false := by simpa using (by omega : ¬ (k : Int) = 3)
        simp [bne, this]
      generalize (c :: r).length = len at *
      clear hl h20 HV h3 hk
      go_enter Try.func47, Try.ntmps47
      go_wp2_with (go_at_call 73; (with_reducible refine (HK.out _).mono ?_); rintro e w' ⟨rfl, rfl⟩)
      go_ret
      exact ⟨ret_b HF.out.symm, grown_refl _ _⟩
    have HK := hid fun w => kindOf_k c.toNat 3 (u8_lt c) h3 w
    obtain ⟨j, hj⟩ : ∃ j, j = span [3, 4] (c :: r) := ⟨_, rfl⟩
    have HRN := hid fun W w' (h : IRd w' .i64 (some ⟨W, 0, none⟩) 2 2 [3, 4]) => run_0 s (c :: r) hl hmax (some ⟨W, 0, none⟩) 2 2 [3, 4] j hj w' h
    have hjl := span_le [3, 4] (c :: r)
    rw [← hj] at hjl
    by_cases hs : j = (c :: r).length
    rotate_left
    · have HF : Hid (V = false) := hid (by rw [HV.out]; exact isNm_f (by rw [shp_cons, ← hj, decide_eq_false hs]; simp))
      have hlt : (j : Int) < (((c :: r).length : Nat) : Int) := by omega
      generalize (c :: r).length = len at *
      clear hl h20 HV h3 hj hs
      go_enter Try.func47, Try.ntmps47
      go_wp2_with (first | (go_at_call 73; (with_reducible refine (HK.out _).mono ?_); rintro e w' ⟨rfl, rfl⟩) | (go_at_call 74; (with_reducible refine (HRN.out _ _ (kinds2' _ _ _ (by simp))).mono ?_); rintro e w' ⟨rfl, rfl⟩))
      go_ret
      exact ⟨ret_b HF.out.symm, World.grownBy_alloc _ _ _⟩
    · have HT : Hid (V = !(kws.contains (c :: r))) := hid (by rw [HV.out]; exact isNm_t (by rw [shp_cons, ← hj, decide_eq_true hs, decide_eq_true h3, decide_eq_true (by omega)]; rfl))
      have hlt : ¬ (j : Int) < (((c :: r).length : Nat) : Int) := by omega
      have HKW := hid keywords_any
      obtain ⟨F, hF⟩ : ∃ F, F = kws.contains (c :: r) := ⟨_, rfl⟩
      have HBS := hid fun (b : Nat) (w : World) h => binKw s (c :: r) hl F hF b w h
      rw [← hF] at HT
      generalize (c :: r).length = len at *
      clear hl h20 HV h3 hj hs hF
      go_enter Try.func47, Try.ntmps47
      go_wp2_with (first | (go_at_call 73; (with_reducible refine (HK.out _).mono ?_); rintro e w' ⟨rfl, rfl⟩) | (go_at_call 74; (with_reducible refine (HRN.out _ _ (kinds2' _ _ _ (by simp))).mono ?_); rintro e w' ⟨rfl, rfl⟩) | (go_at_call 76; (with_reducible refine (HKW.out _).mono ?_); rintro e w1 ⟨b, rfl, hb1, hcl, hg⟩; have HCL := hid hcl; clear hcl) | (go_at_call 75; (with_reducible refine (HBS.out b _ HCL.out).mono ?_); rintro e w2 ⟨I, rfl, hg2⟩))
      go_ret
      exact ⟨ret_b HT.out.symm, grown_trans (World.grownBy_alloc _ _ none) (grown_trans hg hg2)⟩
end Go.Proofs.Ytdmlcddieadelaa

set_option linter.unusedVariables false
set_option linter.unusedSimpArgs false
namespace Go.Proofs.Ytdmlcddieadelaa
open Go.RowKit _root_.Nm Lx

theorem span_all {ks : List Nat} : ∀ {l : List UInt8} (k : Nat), k ≤ span ks l → k = l.length → span ks l = l.length := fun {l} k h1 h2 => by have := span_le ks l; omega
theorem span_at {ks : List Nat} : ∀ {l : List UInt8} (i : Nat) (hi : i < l.length), i < span ks l → kd (l[i]).toNat ∈ ks
  | [], i, hi, h => by simp at hi
  | c :: r, 0, hi, h => by
    by_cases hc : kd c.toNat ∈ ks
    · exact hc
    · rw [span_no hc] at h; omega
  | c :: r, i + 1, hi, h => by
    by_cases hc : kd c.toNat ∈ ks
    · rw [span_yes hc] at h
      exact span_at i (by simpa using hi) (by omega)
    · rw [span_no hc] at h; omega
theorem lt_span {ks : List Nat} : ∀ {l : List UInt8} (i : Nat) (hi : i < l.length), i ≤ span ks l → kd (l[i]).toNat ∈ ks → i + 1 ≤ span ks l
  | [], i, hi, h, _ => by simp at hi
  | c :: r, 0, hi, h, hc => by
    rw [span_yes (show kd c.toNat ∈ ks from hc)]; omega
  | c :: r, i + 1, hi, h, hk => by
    by_cases hc : kd c.toNat ∈ ks
    · rw [span_yes hc] at h ⊢
      have := lt_span i (by simpa using hi) (by omega) hk
      omega
    · rw [span_no hc] at h; omega
theorem ascii_of {m : Nat} (h : kd m = 3 ∨ kd m = 4) : m < 128 := by
  rcases h with h | h
  · have := (kd_letter m).1 h; omega
  · have := (kd_digit m).1 h; omega
theorem not_name {l : List UInt8} (i : Nat) (hi : i < l.length) (h : kd (l[i]).toNat ≠ 3) (h' : kd (l[i]).toNat ≠ 4) : isNm l = false := by
  apply isNm_f
  cases l with
  | nil => rfl
  | cons c r =>
    rw [shp_cons]
    have : span [3, 4] (c :: r) ≠ (c :: r).length := fun e => by
      have := span_at (ks := [3, 4]) i hi (by omega)
      simp at this
      omega
    rw [decide_eq_false this]
    simp

set_option maxHeartbeats 4000000 in
set_option maxRecDepth 100000 in
theorem rIsName_any (s : ByteArray) (l : List UInt8) (hl : s.data.toList = l) (w : World) :
    Calls Try.prog 49 #[.string s] w fun e w' => e = .returned (.bool (isNm l)) ∧ w.grownBy w' none := by
  have hsz : s.size = l.length := by rw [Lib.size_eq, hl]
  cases l with
  | nil =>
    obtain rfl : s = ⟨#[]⟩ := by rw [← Lib.mk_data s, hl]
    have HV : Hid (isNm [] = false) := hid rfl
    clear hl hsz
    go_enter Try.func49, Try.ntmps49
    go_wp2_with fail
    go_ret
    exact ⟨ret_b HV.out.symm, grown_refl _ _⟩
  | cons c r =>
    have hemp := ne_empty hl
    have hix := idx_at s (c :: r) hl 0 (by simp)
    have hix0 : ∀ w, (Instr.index 9 (.string s) (.int .i64 0)).run Try.prog w = .ok (.int .u8 (c.toNat : Int)) w := hix
    clear hix
    obtain ⟨V, hV⟩ : ∃ V, V = isNm (c :: r) := ⟨_, rfl⟩
    rw [← hV]
    have HV := hid hV
    clear hV
    by_cases h20 : 20 < (c :: r).length
    · have HF : Hid (V = false) := hid (by rw [HV.out]; exact isNm_f (by rw [shp_cons, decide_eq_false (by omega)]; rfl))
      have hb : (20 : Int) < (((c :: r).length : Nat) : Int) := by omega
      generalize (c :: r).length = len at *
      clear hl h20 HV
      go_enter Try.func49, Try.ntmps49
      go_wp2_with fail
      go_ret
      exact ⟨ret_b HF.out.symm, grown_refl _ _⟩
    have hb : ¬ (20 : Int) < (((c :: r).length : Nat) : Int) := by omega
    by_cases h3 : kd c.toNat = 3
    rotate_left
    · have HF : Hid (V = false) := hid (by rw [HV.out]; exact isNm_f (by rw [shp_cons, decide_eq_false h3]; simp))
      have HK := hid fun w => letter_f (m := c.toNat) (u8_lt c) h3 w
      generalize (c :: r).length = len at *
      clear hl h20 HV h3
      go_enter Try.func49, Try.ntmps49
      go_wp2_with (go_at_call 81; (with_reducible refine (HK.out _).mono ?_); rintro e w' ⟨rfl, rfl⟩)
      go_ret
      exact ⟨ret_b HF.out.symm, grown_refl _ _⟩
    have HK := hid fun w => letter_t (m := c.toNat) (u8_lt c) h3 w
    have HLL := hid hl
    have HIX := hid (idx_at s (c :: r) hl)
    have H20 := hid h20
    have H3 := hid h3
    obtain ⟨l, hll⟩ : ∃ l, l = c :: r := ⟨_, rfl⟩
    have HC := hid hll
    rw [← hll] at HV HLL HIX H20 hsz hb
    have HSZ := hid hsz
    clear hl h20 h3 hll
    go_enter Try.func49, Try.ntmps49
    go_wp2_with (go_at_call 81; (with_reducible refine (HK.out _).mono ?_); rintro e w' ⟨rfl, rfl⟩)
    clear hix0 hemp HK hb hsz
    go_loopw [] (fun w' => ∃ pos : Nat, w' = w.iter s pos ∧ pos ≤ l.length ∧ Hid (pos ≤ span [3, 4] l)) (fun w' => s.size - w'.iterPos w.heap.size)
    case atStart => exact ⟨0, rfl, Nat.zero_le _, hid (Nat.zero_le _)⟩
    case round =>
      obtain ⟨pos, rfl, hpl, HP⟩ := hrel
      by_cases hlt : pos < l.length
      · have hps : pos < s.size := by rw [HSZ.out]; exact hlt
        have hix := HIX.out pos hlt
        have hsx : s[pos]'hps = l[pos] := by
          have := HLL.out
          subst this
          rfl
        obtain ⟨m, hm⟩ : ∃ m, m = (l[pos]).toNat := ⟨_, rfl⟩
        rw [← hm] at hix
        have hms : (s[pos]'hps).toNat = m := by rw [hsx, hm]
        have h256 : m < 256 := by rw [hm]; exact u8_lt _
        have HMM := hid hm
        have HMS := hid hms
        clear hm hms hsx
        by_cases hg : kd m = 3 ∨ kd m = 4
        · have hnx : ∀ ty, (Instr.next (.pointer (some ⟨w.heap.size, 0, none⟩)) true ty).run Try.prog (w.iter s pos) = _ := fun ty => run_next_ascii w s pos ty hps (by rw [HMS.out]; exact ascii_of hg)
          have HP2 : Hid (pos + 1 ≤ span [3, 4] l) := hid (lt_span pos hlt HP.out (by rw [← HMM.out]; rcases hg with h | h <;> simp [h]))
          by_cases hg3 : kd m = 3
          · have HL := hid fun w => letter_t (m := m) h256 hg3 w
            clear hg hg3
            go_wp2_with (go_at_call 81; (with_reducible refine (HL.out _).mono ?_); rintro e w' ⟨rfl, rfl⟩)
            go_roundw
            case rel => exact ⟨pos + 1, rfl, by omega, HP2⟩
            case measure => simp; omega
          · have HL := hid fun w => letter_f (m := m) h256 hg3 w
            have HD := hid fun w => digit_t (m := m) h256 (by omega) w
            clear hg hg3
            go_wp2_with (first | (go_at_call 81; (with_reducible refine (HL.out _).mono ?_); rintro e w' ⟨rfl, rfl⟩) | (go_at_call 82; (with_reducible refine (HD.out _).mono ?_); rintro e w' ⟨rfl, rfl⟩))
            go_roundw
            case rel => exact ⟨pos + 1, rfl, by omega, HP2⟩
            case measure => simp; omega
        · have hnx : ∀ ty, (Instr.next (.pointer (some ⟨w.heap.size, 0, none⟩)) true ty).run Try.prog (w.iter s pos) = _ := fun ty => run_next_any w s pos ty hps
          have HF : Hid (V = false) := hid (by rw [HV.out]; exact not_name pos hlt (fun e => hg (.inl (by rw [HMM.out]; exact e))) (fun e => hg (.inr (by rw [HMM.out]; exact e))))
          have HL := hid fun w => letter_f (m := m) h256 (fun e => hg (.inl e)) w
          have HD := hid fun w => digit_f (m := m) h256 (fun e => hg (.inr e)) w
          clear hg
          generalize Utf8.decode s pos = dc at *
          go_wp2_with (first | (go_at_call 81; (with_reducible refine (HL.out _).mono ?_); rintro e w' ⟨rfl, rfl⟩) | (go_at_call 82; (with_reducible refine (HD.out _).mono ?_); rintro e w' ⟨rfl, rfl⟩))
          go_ret
          exact ⟨ret_b HF.out.symm, World.grownBy_alloc _ _ _⟩
      · obtain rfl : pos = l.length := by omega
        have hnx : ∀ ty, (Instr.next (.pointer (some ⟨w.heap.size, 0, none⟩)) true ty).run Try.prog (w.iter s l.length) = _ := fun ty => run_next_end w s l.length ty (by rw [HSZ.out]; omega)
        have HT : Hid (V = !(kws.contains l)) := hid (by
          rw [HV.out]; refine isNm_t ?_
          have hsp := span_all l.length HP.out rfl
          have h1 := H20.out; have h2 := H3.out; have h3 := HC.out
          subst h3
          rw [shp_cons, hsp, decide_eq_true rfl, decide_eq_true h2, decide_eq_true (by omega)]; rfl)
        have HKW := hid rkeywords_any
        have hgi : w.grownBy (w.iter s l.length) none := World.grownBy_alloc _ _ _
        generalize w.iter s l.length = w1 at *
        go_wp2_with (go_at_call 83; (with_reducible refine (HKW.out _).mono ?_); rintro e w2 ⟨b, rfl, hb1, hcl, hg⟩; have HCL := hid hcl; clear hcl)
        have hG := grown_trans hgi hg
        go_loop [38] (fun x => ∃ k : Nat, k ≤ 29 ∧ x = .int .i64 k ∧ Hid (∀ j, j < k → kwAt j ≠ l)) (fun x => 29 - (intOf x).toNat)
        case atStart => exact ⟨0, Nat.zero_le _, rfl, hid fun j hj => by omega⟩
        case round =>
          obtain ⟨k, hk, rfl, HN⟩ := hrel
          by_cases hk29 : k < 29
          · have hcell := HCL.out k hk29
            by_cases he : kwAt k = l
            · have HF : Hid (V = false) := hid (by rw [HT.out, List.contains_eq_mem, decide_eq_true (kw_mem.2 ⟨k, hk29, he⟩)]; rfl)
              have hse : (⟨(kwAt k).toArray⟩ : ByteArray) = s := by rw [he, ← HLL.out]
              rw [hse] at hcell
              clear he hse
              go_wp2_with fail
              go_ret
              exact ⟨ret_b HF.out.symm, hG⟩
            · have HN2 : Hid (∀ j, j < k + 1 → kwAt j ≠ l) := hid fun j hj => by
                by_cases e : j = k
                · subst e; exact he
                · exact HN.out j (by omega)
              obtain ⟨d, hd⟩ : ∃ d, d = (⟨(kwAt k).toArray⟩ : ByteArray) := ⟨_, rfl⟩
              rw [← hd] at hcell
              have hne : (s.toList == d.toList) = false := by
                cases e : s.toList == d.toList with
                | false => rfl
                | true =>
                  have := eq_of_beq e
                  rw [Lib.toList_data, Lib.toList_data, HLL.out, hd] at this
                  exact absurd this.symm he
              clear he hd
              go_wp2_with fail
              exact ⟨⟨k + 1, by omega, rfl, HN2⟩, by simp [intOf]; omega⟩
          · obtain rfl : k = 29 := by omega
            have HF : Hid (V = true) := hid (by
              rw [HT.out, List.contains_eq_mem, decide_eq_false (fun h => by obtain ⟨j, hj, e⟩ := kw_mem.1 h; exact HN.out j hj e)]; rfl)
            go_wp2_with fail
            go_ret
            exact ⟨ret_b HF.out.symm, hG⟩
end Go.Proofs.Ytdmlcddieadelaa

set_option linter.unusedVariables false
set_option linter.unusedSimpArgs false
namespace Go.Proofs.Ytdmlcddieadelaa
open Go.RowKit _root_.Nm Lx
/-- the number of arguments of a step, -1 for other kinds -/
def arS (k : Int) : Int := if k = 1 then 0 else if k = 2 then 2 else if k = 3 then 3 else if k = 4 then 3 else if k = 5 then 2 else if k = 6 then 2 else if k = 7 then 3 else if k = 8 then 3 else if k = 9 then 4 else if k = 10 then 3 else if k = 11 then 3 else if k = 12 then 4 else if k = 13 then 4 else if k = 14 then 2 else -1
set_option maxHeartbeats 8000000 in
set_option maxRecDepth 100000 in
theorem rArity20_any (k : Int) (w : World) : Calls Try.prog 54 #[.int .i64 k] w fun e w' => e = .returned (.int .i64 (arS k)) ∧ w.grownBy w' none := by
  unfold arS
  by_cases h1 : k = 1
  · subst h1
    go_enter Try.func54, Try.ntmps54
    go_wp2_with fail
    go_ret
    exact ⟨by simp, grown_refl _ _⟩
  by_cases h2 : k = 2
  · subst h2
    go_enter Try.func54, Try.ntmps54
    go_wp2_with fail
    go_ret
    exact ⟨by simp, grown_refl _ _⟩
  by_cases h3 : k = 3
  · subst h3
    go_enter Try.func54, Try.ntmps54
    go_wp2_with fail
    go_ret
    exact ⟨by simp, grown_refl _ _⟩
  by_cases h4 : k = 4
  · subst h4
    go_enter Try.func54, Try.ntmps54
    go_wp2_with fail
    go_ret
    exact ⟨by simp, grown_refl _ _⟩
  by_cases h5 : k = 5
  · subst h5
    go_enter Try.func54, Try.ntmps54
    go_wp2_with fail
    go_ret
    exact ⟨by simp, grown_refl _ _⟩
  by_cases h6 : k = 6
  · subst h6
    go_enter Try.func54, Try.ntmps54
    go_wp2_with fail
    go_ret
    exact ⟨by simp, grown_refl _ _⟩
  by_cases h7 : k = 7
  · subst h7
    go_enter Try.func54, Try.ntmps54
    go_wp2_with fail
    go_ret
    exact ⟨by simp, grown_refl _ _⟩
  by_cases h8 : k = 8
  · subst h8
    go_enter Try.func54, Try.ntmps54
    go_wp2_with fail
    go_ret
    exact ⟨by simp, grown_refl _ _⟩
  by_cases h9 : k = 9
  · subst h9
    go_enter Try.func54, Try.ntmps54
    go_wp2_with fail
    go_ret
    exact ⟨by simp, grown_refl _ _⟩
  by_cases h10 : k = 10
  · subst h10
    go_enter Try.func54, Try.ntmps54
    go_wp2_with fail
    go_ret
    exact ⟨by simp, grown_refl _ _⟩
  by_cases h11 : k = 11
  · subst h11
    go_enter Try.func54, Try.ntmps54
    go_wp2_with fail
    go_ret
    exact ⟨by simp, grown_refl _ _⟩
  by_cases h12 : k = 12
  · subst h12
    go_enter Try.func54, Try.ntmps54
    go_wp2_with fail
    go_ret
    exact ⟨by simp, grown_refl _ _⟩
  by_cases h13 : k = 13
  · subst h13
    go_enter Try.func54, Try.ntmps54
    go_wp2_with fail
    go_ret
    exact ⟨by simp, grown_refl _ _⟩
  by_cases h14 : k = 14
  · subst h14
    go_enter Try.func54, Try.ntmps54
    go_wp2_with fail
    go_ret
    exact ⟨by simp, grown_refl _ _⟩
  go_enter Try.func54, Try.ntmps54
  go_wp2_with fail
  go_ret
  exact ⟨by simp [h1, h2, h3, h4, h5, h6, h7, h8, h9, h10, h11, h12, h13, h14], grown_refl _ _⟩
set_option maxHeartbeats 4000000 in
set_option maxRecDepth 100000 in
theorem rNone20_any (g : Bool) (p q : Option Addr) (n c m d : Nat) (R : Bool) (hR : R = (!g && (decide (n = 0) && decide (m = 0)))) (w : World) :
    Calls Try.prog 56 #[.agg #[.bool g, .slice p n c, .slice q m d]] w fun e w' => e = .returned (.bool R) ∧ w.grownBy w' none := by
  subst hR
  have hW := World.grownBy_alloc w (.cells #[.bool g, .slice p n c, .slice q m d] 56 (0, 0)) none
  obtain ⟨k0, k1, k2⟩ := box3n (blk0 w (.cells #[.bool g, .slice p n c, .slice q m d] 56 (0, 0)))
  cases g
  · by_cases hn : n = 0
    · subst hn
      go_enter Try.func56, Try.ntmps56
      go_wp2_with fail
      go_ret
      have hm : ((m : Int) == 0) = decide (m = 0) := by rw [Bool.eq_iff_iff]; simp
      exact ⟨by simp [hm], hW⟩
    · have hz : ((n : Int) == 0) = false := by simpa using hn
      go_enter Try.func56, Try.ntmps56
      go_wp2_with fail
      go_ret
      exact ⟨by simp [hn], hW⟩
  · go_enter Try.func56, Try.ntmps56
    go_wp2_with fail
    go_ret
    exact ⟨by simp, hW⟩
theorem box6 {w : World} {G : Nat} {a b c d e f : Value} {T : TypeId} (hb : w.heap[G]? = some (.cells #[a, b, c, d, e, f] T (0, 0))) :
    (w.cell? ⟨G, 0, none⟩ = some a ∧ w.cell? ⟨G, 1, none⟩ = some b ∧ w.cell? ⟨G, 2, none⟩ = some c ∧ w.cell? ⟨G, 3, none⟩ = some d ∧ w.cell? ⟨G, 4, none⟩ = some e ∧ w.cell? ⟨G, 5, none⟩ = some f) ∧ (∀ o, w.frozen? ⟨G, o, none⟩ = false) := by
  have k := fun i => cell_of_row w G i _ _ _ hb
  have k0 := k 0; have k1 := k 1; have k2 := k 2; have k3 := k 3; have k4 := k 4; have k5 := k 5
  simp at k0 k1 k2 k3 k4 k5
  exact ⟨⟨k0, k1, k2, k3, k4, k5⟩, fun o => frozen_of_row w G o _ _ hb⟩
/-- the error of a step, but for its name that occurs twice -/
def errS (k : Int) (n : Nat) (b R : Bool) (nm : List UInt8) : Int := if arS k < 0 then 8 else if (n : Int) ≠ arS k then 1 else if b = false then 2 else if R = false then 1 else if nm ≠ [] ∧ isNm nm = false then 6 else 0
end Go.Proofs.Ytdmlcddieadelaa

set_option linter.unusedVariables false
set_option linter.unusedSimpArgs false
namespace Go.Proofs.Ytdmlcddieadelaa
open Go.RowKit _root_.Nm Lx
/-- a step of a list in memory: its cells, its name, the lengths of its slices -/
def SpAt (w : World) (p : Option Addr) (i : Nat) (cs : List Value) (nm : ByteArray) (na n1 n2 : Nat) : Prop := ∃ (b o : Nat) (k : Int) (pa : Option Addr) (ca : Nat) (g : Bool) (p1 : Option Addr) (c1 : Nat) (p2 : Option Addr) (c2 : Nat), p = some ⟨b, o, none⟩ ∧ cs = [.int .i64 k, .string nm, .slice pa na ca, .bool g, .slice p1 n1 c1, .slice p2 n2 c2] ∧ w.cell? ⟨b, o + i * 6, none⟩ = some (.int .i64 k) ∧ w.cell? ⟨b, o + i * 6 + 1, none⟩ = some (.string nm) ∧ w.cell? ⟨b, o + i * 6 + 2, none⟩ = some (.slice pa na ca) ∧ w.cell? ⟨b, o + i * 6 + 3, none⟩ = some (.bool g) ∧ w.cell? ⟨b, o + i * 6 + 4, none⟩ = some (.slice p1 n1 c1) ∧ w.cell? ⟨b, o + i * 6 + 5, none⟩ = some (.slice p2 n2 c2)
theorem SpAt.keep {w w' : World} {p : Option Addr} {i : Nat} {cs : List Value} {nm : ByteArray} {na n1 n2 : Nat} (h : SpAt w p i cs nm na n1 n2) (hg : w.grownBy w' none) : SpAt w' p i cs nm na n1 n2 := by
  obtain ⟨b, o, k, pa, ca, g, p1, c1, p2, c2, h1, h2, a0, a1, a2, a3, a4, a5⟩ := h
  exact ⟨b, o, k, pa, ca, g, p1, c1, p2, c2, h1, h2, hg.cell a0 (by simp), hg.cell a1 (by simp), hg.cell a2 (by simp), hg.cell a3 (by simp), hg.cell a4 (by simp), hg.cell a5 (by simp)⟩
open Classical in
/-- 7 for a name that an earlier step has -/
noncomputable def twiceE (P : Nat → ByteArray) (i : Nat) : Int := if (P i).data.toList ≠ [] ∧ ∃ j, j < i ∧ P j = P i then 7 else 0
set_option maxHeartbeats 64000000 in
set_option maxRecDepth 100000 in
theorem rStep_n (p : Option Addr) (n c : Nat) (C : Nat → List Value) (P : Nat → ByteArray) (NA N1 N2 : Nat → Nat) (i : Nat) (w : World) (hc : n ≤ c ∧ c ≤ 9223372036854775807) (hi : i < n) (hS : ∀ j, j < n → SpAt w p j (C j) (P j) (NA j) (N1 j) (N2 j))
    (k : Int) (nm : ByteArray) (pa : Option Addr) (na ca : Nat) (g : Bool) (p1 : Option Addr) (n1 c1 : Nat) (p2 : Option Addr) (n2 c2 : Nat) (zs : List Int) (b R : Bool) (hck : C i = [.int .i64 k, .string nm, .slice pa na ca, .bool g, .slice p1 n1 c1, .slice p2 n2 c2]) (h : ZRd w .i64 pa na ca zs) (hb : b = true ↔ ∀ j (hj : j < zs.length), 0 ≤ zs[j] ∧ zs[j] < (i : Int)) (hR : RatF w (decide (k = 2)) g p1 n1 c1 p2 n2 c2 R) (x : Int) (hx : x = if errS k na b R nm.data.toList = 0 then twiceE P i else errS k na b R nm.data.toList) :
    Calls Try.prog 24 #[.slice p n c, .int .i64 i] w fun e w' => e = .returned (.int .i64 x) ∧ w.grownBy w' none := by
  have hl := h.len
  have hca := h.cap
  have hma := h.max
  have hPi : P i = nm := by
    obtain ⟨_, _, _, _, _, _, _, _, _, _, _, h2, _⟩ := hS i hi
    rw [hck] at h2
    simp at h2
    exact h2.2.1.symm
  obtain ⟨b9, o9, k', pa', ca', g', p1', c1', p2', c2', rfl, hcs, a0, a1, a2, a3, a4, a5⟩ := hS i hi
  rw [hck] at hcs
  simp only [List.cons.injEq, Value.int.injEq, true_and, Value.string.injEq, Value.bool.injEq, Value.slice.injEq, and_true] at hcs
  obtain ⟨rfl, hnm1, ⟨rfl, hna, rfl⟩, rfl, ⟨rfl, hn1, rfl⟩, rfl, hn2, rfl⟩ := hcs
  rw [← hnm1] at a1
  rw [← hna] at a2
  rw [← hn1] at a4
  rw [← hn2] at a5
  clear hnm1 hna hn1 hn2
  obtain ⟨hnc, hcm⟩ := hc
  have HS := hid hS
  have HZS := hid h
  have HB := hid hb
  have HRA := hid hR.rright
  have HRN := hid fun (hk : ¬ k = 2) w => rNone20_any g p1 p2 n1 c1 n2 c2 R (hR.none (by simp [hk])) w
  have HA := hid fun w => rArity20_any k w
  have HN := hid fun w => rIsName_any nm nm.data.toList rfl w
  have HPI := hid hPi
  clear hS h hb hR hck hPi
  have hW := World.grownBy_alloc w (.cells #[.int .i64 k, .string nm, .slice pa na ca, .bool g, .slice p1 n1 c1, .slice p2 n2 c2] 64 (0, 0)) none
  have hbx := blk0 w (.cells #[.int .i64 k, .string nm, .slice pa na ca, .bool g, .slice p1 n1 c1, .slice p2 n2 c2] 64 (0, 0))
  obtain ⟨⟨i0, i1, i2, i3, i4, i5⟩, fa⟩ := box6 (blk0 w (.cells #[.int .i64 0, .string ⟨#[]⟩, .slice none 0 0, .bool false, .slice none 0 0, .slice none 0 0] 64 (0, 0)))
  have f0 := fa 0; have f1 := fa 1; have f2 := fa 2; have f3 := fa 3; have f4 := fa 4; have f5 := fa 5
  clear fa
  have hz0 : (0 : Int) ≤ (i : Int) := by omega
  have hz1 : (i : Int) < (n : Int) := by omega
  obtain ⟨TW, hTW⟩ : ∃ t, t = twiceE P i := ⟨_, rfl⟩
  have HTW := hid hTW
  unfold errS at hx
  rw [← hTW] at hx
  clear hTW
  generalize arS k = a at *
  by_cases h0 : a < 0
  · rw [if_pos h0] at hx
    have HX := hid hx
    clear hx
    go_enter Try.func24, Try.ntmps24
    go_upto_region 2 with fail
    clear i0 i1 i2 i3 i4 i5 f0 f1 f2 f3 f4 f5 a0 a1 a2 a3 a4 a5
    obtain ⟨⟨k0, k1, k2, k3, k4, k5⟩, -⟩ := box6 hbx
    generalize (w.alloc _) = w0 at *
    go_wp2_with (first | (go_at_call 54; refine (HA.out _).mono ?_; rintro e w1 ⟨rfl, hg⟩; replace hW := grown_trans hW hg; replace k0 := hg.cell k0 (by simp); replace k1 := hg.cell k1 (by simp); replace k2 := hg.cell k2 (by simp); replace k3 := hg.cell k3 (by simp); replace k4 := hg.cell k4 (by simp); replace k5 := hg.cell k5 (by simp); clear hg))
    go_ret
    exact ⟨by rw [HX.out]; simp, hW⟩
  · rw [if_neg h0] at hx
    by_cases h1 : (na : Int) = a
    · subst h1
      rw [if_neg (show ¬ ((na : Int) ≠ (na : Int)) by simp)] at hx
      have HX := hid hx
      clear hx
      go_enter Try.func24, Try.ntmps24
      go_upto_region 2 with fail
      clear i0 i1 i2 i3 i4 i5 f0 f1 f2 f3 f4 f5 a0 a1 a2 a3 a4 a5 hz1
      obtain ⟨⟨k0, k1, k2, k3, k4, k5⟩, -⟩ := box6 hbx
      clear hbx
      generalize (w.alloc _) = w0 at *
      go_upto_region 4 with (first | (go_at_call 54; refine (HA.out _).mono ?_; rintro e w1 ⟨rfl, hg⟩; replace hW := grown_trans hW hg; replace k0 := hg.cell k0 (by simp); replace k1 := hg.cell k1 (by simp); replace k2 := hg.cell k2 (by simp); replace k3 := hg.cell k3 (by simp); replace k4 := hg.cell k4 (by simp); replace k5 := hg.cell k5 (by simp); clear hg))
      clear h0
      go_region_held3 (fun w' => w'.cell? ⟨w.heap.size, 0, none⟩ = some (.int .i64 k) ∧ w'.cell? ⟨w.heap.size, 1, none⟩ = some (.string nm) ∧ w'.cell? ⟨w.heap.size, 2, none⟩ = some (.slice pa na ca) ∧ w'.cell? ⟨w.heap.size, 3, none⟩ = some (.bool g) ∧ w'.cell? ⟨w.heap.size, 4, none⟩ = some (.slice p1 n1 c1) ∧ w'.cell? ⟨w.heap.size, 5, none⟩ = some (.slice p2 n2 c2) ∧ w.grownBy w' none) ((try go_split_ands) <;> (repeat' apply And.intro) <;> (first | (with_reducible assumption) | (with_reducible refine (grown_drew _ none).cell ?_ (by simp); with_reducible assumption) | (with_reducible refine grown_trans ?_ (grown_drew _ none); with_reducible assumption))) (first | (go_at_call 54; (with_reducible refine (HA.out _).mono ?_); rintro e w1 ⟨rfl, hg⟩; (first | replace hW := grown_trans hW hg | replace hW := grown_trans (grown_trans hW (grown_drew _ none)) hg); replace k0 := hg.cell k0 (by simp); replace k1 := hg.cell k1 (by simp); replace k2 := hg.cell k2 (by simp); replace k3 := hg.cell k3 (by simp); replace k4 := hg.cell k4 (by simp); replace k5 := hg.cell k5 (by simp); clear hg))
      go_wp2_with fail
      have HW2 := hid hW
      have K0 := hid k0
      have K1 := hid k1
      have K2 := hid k2
      have K3 := hid k3
      have K4 := hid k4
      have K5 := hid k5
      clear hW k0 k1 k2 k3 k4 k5
      go_loopw [28] (fun y wr => ∃ j : Nat, j ≤ na ∧ y = .int .i64 j ∧ w1.grownBy wr none ∧ ∀ i' (hi : i' < zs.length), i' < j → 0 ≤ zs[i'] ∧ zs[i'] < (i : Int)) (fun y _ => na - (intOf y).toNat)
      case atStart => exact ⟨0, Nat.zero_le _, rfl, (by first | exact grown_refl _ _ | exact grown_drew _ _), fun i' _ h => absurd h (Nat.not_lt_zero i')⟩
      case round =>
        obtain ⟨j, hj, rfl, hg, hall⟩ := hrel
        have HALL := hid hall
        clear hall
        by_cases hlt : j < na
        · obtain ⟨bA, oA, rfl, c0⟩ := (HZS.out.keep (grown_trans HW2.out hg)).cel j (by omega)
          obtain ⟨z, hz⟩ : ∃ z, z = zs[j]'(by omega) := ⟨_, rfl⟩
          rw [← hz] at c0
          have HZ := hid hz
          clear hz
          by_cases h1 : z < 0
          · obtain rfl : b = false := by
              rw [← Bool.not_eq_true, HB.out]
              intro h9
              have := (h9 j (by omega)).1
              rw [← HZ.out] at this
              omega
            go_wp2_with fail
            go_ret
            exact ⟨by rw [HX.out]; simp, grown_trans HW2.out hg⟩
          · by_cases h2 : (i : Int) ≤ z
            · obtain rfl : b = false := by
                rw [← Bool.not_eq_true, HB.out]
                intro h9
                have := (h9 j (by omega)).2
                rw [← HZ.out] at this
                omega
              go_wp2_with fail
              go_ret
              exact ⟨by rw [HX.out]; simp, grown_trans HW2.out hg⟩
            · go_wp2_with fail
              refine ⟨⟨j + 1, by omega, by go_num, hg, fun i' hi h => ?_⟩, by simp [intOf]; omega⟩
              rcases Nat.lt_or_eq_of_le (Nat.le_of_lt_succ h) with h | rfl
              · exact HALL.out i' hi h
              · rw [← HZ.out]; omega
        · obtain rfl : j = na := by omega
          obtain rfl : b = true := HB.out.2 fun i' hi => HALL.out i' hi (by omega)
          have k0 := hg.cell K0.out (by simp)
          have k1 := hg.cell K1.out (by simp)
          have k2 := hg.cell K2.out (by simp)
          have k3 := hg.cell K3.out (by simp)
          have k4 := hg.cell K4.out (by simp)
          have k5 := hg.cell K5.out (by simp)
          have hW := grown_trans HW2.out hg
          have hs9 := hg.size
          clear HW2 K0 K1 K2 K3 K4 K5 hg HALL HA
          by_cases hk : k = 2
          · subst hk
            have HRR := hid (HRA.out (by simp))
            clear HRA HRN
            cases R
            · go_wp2_with (first | (go_at_call 55; refine (HRR.out _ hW).mono ?_; rintro e w1 ⟨rfl, hg⟩; replace hW := grown_trans hW hg; replace k0 := hg.cell k0 (by simp); replace k1 := hg.cell k1 (by simp); replace k2 := hg.cell k2 (by simp); replace k3 := hg.cell k3 (by simp); replace k4 := hg.cell k4 (by simp); replace k5 := hg.cell k5 (by simp); clear hg))
              go_ret
              exact ⟨by rw [HX.out]; simp, hW⟩
            by_cases he : nm.data.toList = []
            · have hz9 : nm.toList.isEmpty = true := by simp [Lib.toList_data, he]
              go_wp2_with (first | (go_at_call 55; refine (HRR.out _ hW).mono ?_; rintro e w1 ⟨rfl, hg⟩; replace hW := grown_trans hW hg; replace k0 := hg.cell k0 (by simp); replace k1 := hg.cell k1 (by simp); replace k2 := hg.cell k2 (by simp); replace k3 := hg.cell k3 (by simp); replace k4 := hg.cell k4 (by simp); replace k5 := hg.cell k5 (by simp); clear hg))
              go_ret
              refine ⟨?_, hW⟩
              have := HTW.out
              unfold twiceE at this
              rw [HPI.out] at this
              simp [he] at this
              rw [HX.out]
              simp [he, this]
            have hz9 : nm.toList.isEmpty = false := by rw [List.isEmpty_eq_false_iff, Lib.toList_data]; exact he
            obtain ⟨ib, hib⟩ : ∃ ib, ib = isNm nm.data.toList := ⟨_, rfl⟩
            rw [← hib] at HN
            have HIB := hid hib
            have HE := hid he
            clear hib he
            cases ib
            · go_wp2_with (first | (go_at_call 55; refine (HRR.out _ hW).mono ?_; rintro e w1 ⟨rfl, hg⟩; replace hW := grown_trans hW hg; replace k0 := hg.cell k0 (by simp); replace k1 := hg.cell k1 (by simp); replace k2 := hg.cell k2 (by simp); replace k3 := hg.cell k3 (by simp); replace k4 := hg.cell k4 (by simp); replace k5 := hg.cell k5 (by simp); clear hg) | (go_at_call 49; refine (HN.out _).mono ?_; rintro e w1 ⟨rfl, hg⟩; replace hW := grown_trans hW hg; replace k0 := hg.cell k0 (by simp); replace k1 := hg.cell k1 (by simp); replace k2 := hg.cell k2 (by simp); replace k3 := hg.cell k3 (by simp); replace k4 := hg.cell k4 (by simp); replace k5 := hg.cell k5 (by simp); clear hg))
              go_ret
              exact ⟨by rw [HX.out, ← HIB.out]; simp [HE.out], hW⟩
            · have hz0' : (i : Int) ≤ (c : Int) := by omega
              have hz1' : i ≤ c := by omega
              go_wp2_with (first | (go_at_call 55; refine (HRR.out _ hW).mono ?_; rintro e w1 ⟨rfl, hg⟩; replace hW := grown_trans hW hg; replace k0 := hg.cell k0 (by simp); replace k1 := hg.cell k1 (by simp); replace k2 := hg.cell k2 (by simp); replace k3 := hg.cell k3 (by simp); replace k4 := hg.cell k4 (by simp); replace k5 := hg.cell k5 (by simp); clear hg) | (go_at_call 49; refine (HN.out _).mono ?_; rintro e w1 ⟨rfl, hg⟩; replace hW := grown_trans hW hg; replace k0 := hg.cell k0 (by simp); replace k1 := hg.cell k1 (by simp); replace k2 := hg.cell k2 (by simp); replace k3 := hg.cell k3 (by simp); replace k4 := hg.cell k4 (by simp); replace k5 := hg.cell k5 (by simp); clear hg))
              clear hz9
              have HW3 := hid hW
              have K1 := hid k1
              clear hW k0 k1 k2 k3 k4 k5
              go_loopw [71] (fun y wr => ∃ j : Nat, j ≤ i ∧ y = .int .i64 j ∧ w1.grownBy wr none ∧ ∀ j', j' < j → ¬ P j' = nm) (fun y _ => i - (intOf y).toNat)
              case atStart => exact ⟨0, Nat.zero_le _, rfl, grown_refl _ _, fun j' h => absurd h (Nat.not_lt_zero j')⟩
              case round =>
                obtain ⟨j, hj, rfl, hg, hall⟩ := hrel
                have HALL := hid hall
                clear hall
                by_cases hlt : j < i
                · have hgw := grown_trans HW3.out hg
                  obtain ⟨b8, o8, k8, pa8, ca8, g8, p18, c18, p28, c28, hpe, hck8, a0, a1, a2, a3, a4, a5⟩ := (HS.out j (by omega)).keep hgw
                  cases hpe
                  have k1 := hg.cell K1.out (by simp)
                  have hGB := World.grownBy_alloc wr (.cells #[.int .i64 k8, .string (P j), .slice pa8 (NA j) ca8, .bool g8, .slice p18 (N1 j) c18, .slice p28 (N2 j) c28] 64 (0, 0)) none
                  have k1' := hGB.cell k1 (by simp)
                  obtain ⟨⟨l0, l1, -⟩, -⟩ := box6 (blk0 wr (.cells #[.int .i64 k8, .string (P j), .slice pa8 (NA j) ca8, .bool g8, .slice p18 (N1 j) c18, .slice p28 (N2 j) c28] 64 (0, 0)))
                  obtain ⟨⟨i0, i1, i2, i3, i4, i5⟩, fa⟩ := box6 (blk0 wr (.cells #[.int .i64 0, .string ⟨#[]⟩, .slice none 0 0, .bool false, .slice none 0 0, .slice none 0 0] 64 (0, 0)))
                  have f0 := fa 0; have f1 := fa 1; have f2 := fa 2; have f3 := fa 3; have f4 := fa 4; have f5 := fa 5
                  have HGG := hid (grown_trans hg hGB)
                  have HGT := hid (grown_trans hgw hGB)
                  clear fa hck8 hgw hGB
                  obtain ⟨d, hd⟩ : ∃ d, d = P j := ⟨_, rfl⟩
                  rw [← hd] at a1 l0 l1 k1' HGG HGT
                  have HD := hid hd
                  generalize NA j = na8 at *
                  generalize N1 j = n18 at *
                  generalize N2 j = n28 at *
                  by_cases hdd : d = nm
                  · subst hdd
                    have hE : TW = 7 := by
                      rw [HTW.out]
                      unfold twiceE
                      rw [if_pos ⟨by rw [HPI.out]; exact HE.out, j, hlt, by rw [HPI.out]; exact HD.out.symm⟩]
                    clear hd
                    subst hE
                    go_wp2_with fail
                    go_ret
                    exact ⟨by rw [HX.out, ← HIB.out]; simp, HGT.out⟩
                  · have hdb : (d.toList == nm.toList) = false := by
                      rw [beq_eq_false_iff_ne]
                      exact fun e => hdd (bytesEq.1 e)
                    have HDD := hid hdd
                    clear hdd hd
                    go_wp2_with fail
                    refine ⟨⟨j + 1, by omega, by go_num, HGG.out, fun j' h => ?_⟩, by simp [intOf]; omega⟩
                    rcases Nat.lt_or_eq_of_le (Nat.le_of_lt_succ h) with h | rfl
                    · exact HALL.out j' h
                    · rw [← HD.out]; exact HDD.out
                · obtain rfl : j = i := by omega
                  have hE : TW = 0 := by
                    rw [HTW.out]
                    unfold twiceE
                    rw [if_neg]
                    rintro ⟨_, j', h1, h2⟩
                    exact HALL.out j' h1 (by rw [h2]; exact HPI.out)
                  subst hE
                  go_wp2_with fail
                  go_ret
                  exact ⟨by rw [HX.out, ← HIB.out]; simp, grown_trans HW3.out hg⟩
          · have hkb : (k == 2) = false := by simpa using hk
            have hkc : (k != 2) = true := by simpa using hk
            have HRR := hid fun w => HRN.out hk w
            clear HRA HRN hk
            cases R
            · go_wp2_with (first | (go_at_call 56; refine (HRR.out _).mono ?_; rintro e w1 ⟨rfl, hg⟩; replace hW := grown_trans hW hg; replace k0 := hg.cell k0 (by simp); replace k1 := hg.cell k1 (by simp); replace k2 := hg.cell k2 (by simp); replace k3 := hg.cell k3 (by simp); replace k4 := hg.cell k4 (by simp); replace k5 := hg.cell k5 (by simp); clear hg))
              go_ret
              exact ⟨by rw [HX.out]; simp, hW⟩
            by_cases he : nm.data.toList = []
            · have hz9 : nm.toList.isEmpty = true := by simp [Lib.toList_data, he]
              go_wp2_with (first | (go_at_call 56; refine (HRR.out _).mono ?_; rintro e w1 ⟨rfl, hg⟩; replace hW := grown_trans hW hg; replace k0 := hg.cell k0 (by simp); replace k1 := hg.cell k1 (by simp); replace k2 := hg.cell k2 (by simp); replace k3 := hg.cell k3 (by simp); replace k4 := hg.cell k4 (by simp); replace k5 := hg.cell k5 (by simp); clear hg))
              go_ret
              refine ⟨?_, hW⟩
              have := HTW.out
              unfold twiceE at this
              rw [HPI.out] at this
              simp [he] at this
              rw [HX.out]
              simp [he, this]
            have hz9 : nm.toList.isEmpty = false := by rw [List.isEmpty_eq_false_iff, Lib.toList_data]; exact he
            obtain ⟨ib, hib⟩ : ∃ ib, ib = isNm nm.data.toList := ⟨_, rfl⟩
            rw [← hib] at HN
            have HIB := hid hib
            have HE := hid he
            clear hib he
            cases ib
            · go_wp2_with (first | (go_at_call 56; refine (HRR.out _).mono ?_; rintro e w1 ⟨rfl, hg⟩; replace hW := grown_trans hW hg; replace k0 := hg.cell k0 (by simp); replace k1 := hg.cell k1 (by simp); replace k2 := hg.cell k2 (by simp); replace k3 := hg.cell k3 (by simp); replace k4 := hg.cell k4 (by simp); replace k5 := hg.cell k5 (by simp); clear hg) | (go_at_call 49; refine (HN.out _).mono ?_; rintro e w1 ⟨rfl, hg⟩; replace hW := grown_trans hW hg; replace k0 := hg.cell k0 (by simp); replace k1 := hg.cell k1 (by simp); replace k2 := hg.cell k2 (by simp); replace k3 := hg.cell k3 (by simp); replace k4 := hg.cell k4 (by simp); replace k5 := hg.cell k5 (by simp); clear hg))
              go_ret
              exact ⟨by rw [HX.out, ← HIB.out]; simp [HE.out], hW⟩
            · have hz0' : (i : Int) ≤ (c : Int) := by omega
              have hz1' : i ≤ c := by omega
              go_wp2_with (first | (go_at_call 56; refine (HRR.out _).mono ?_; rintro e w1 ⟨rfl, hg⟩; replace hW := grown_trans hW hg; replace k0 := hg.cell k0 (by simp); replace k1 := hg.cell k1 (by simp); replace k2 := hg.cell k2 (by simp); replace k3 := hg.cell k3 (by simp); replace k4 := hg.cell k4 (by simp); replace k5 := hg.cell k5 (by simp); clear hg) | (go_at_call 49; refine (HN.out _).mono ?_; rintro e w1 ⟨rfl, hg⟩; replace hW := grown_trans hW hg; replace k0 := hg.cell k0 (by simp); replace k1 := hg.cell k1 (by simp); replace k2 := hg.cell k2 (by simp); replace k3 := hg.cell k3 (by simp); replace k4 := hg.cell k4 (by simp); replace k5 := hg.cell k5 (by simp); clear hg))
              clear hz9
              have HW3 := hid hW
              have K1 := hid k1
              clear hW k0 k1 k2 k3 k4 k5
              go_loopw [71] (fun y wr => ∃ j : Nat, j ≤ i ∧ y = .int .i64 j ∧ w1.grownBy wr none ∧ ∀ j', j' < j → ¬ P j' = nm) (fun y _ => i - (intOf y).toNat)
              case atStart => exact ⟨0, Nat.zero_le _, rfl, grown_refl _ _, fun j' h => absurd h (Nat.not_lt_zero j')⟩
              case round =>
                obtain ⟨j, hj, rfl, hg, hall⟩ := hrel
                have HALL := hid hall
                clear hall
                by_cases hlt : j < i
                · have hgw := grown_trans HW3.out hg
                  obtain ⟨b8, o8, k8, pa8, ca8, g8, p18, c18, p28, c28, hpe, hck8, a0, a1, a2, a3, a4, a5⟩ := (HS.out j (by omega)).keep hgw
                  cases hpe
                  have k1 := hg.cell K1.out (by simp)
                  have hGB := World.grownBy_alloc wr (.cells #[.int .i64 k8, .string (P j), .slice pa8 (NA j) ca8, .bool g8, .slice p18 (N1 j) c18, .slice p28 (N2 j) c28] 64 (0, 0)) none
                  have k1' := hGB.cell k1 (by simp)
                  obtain ⟨⟨l0, l1, -⟩, -⟩ := box6 (blk0 wr (.cells #[.int .i64 k8, .string (P j), .slice pa8 (NA j) ca8, .bool g8, .slice p18 (N1 j) c18, .slice p28 (N2 j) c28] 64 (0, 0)))
                  obtain ⟨⟨i0, i1, i2, i3, i4, i5⟩, fa⟩ := box6 (blk0 wr (.cells #[.int .i64 0, .string ⟨#[]⟩, .slice none 0 0, .bool false, .slice none 0 0, .slice none 0 0] 64 (0, 0)))
                  have f0 := fa 0; have f1 := fa 1; have f2 := fa 2; have f3 := fa 3; have f4 := fa 4; have f5 := fa 5
                  have HGG := hid (grown_trans hg hGB)
                  have HGT := hid (grown_trans hgw hGB)
                  clear fa hck8 hgw hGB
                  obtain ⟨d, hd⟩ : ∃ d, d = P j := ⟨_, rfl⟩
                  rw [← hd] at a1 l0 l1 k1' HGG HGT
                  have HD := hid hd
                  generalize NA j = na8 at *
                  generalize N1 j = n18 at *
                  generalize N2 j = n28 at *
                  by_cases hdd : d = nm
                  · subst hdd
                    have hE : TW = 7 := by
                      rw [HTW.out]
                      unfold twiceE
                      rw [if_pos ⟨by rw [HPI.out]; exact HE.out, j, hlt, by rw [HPI.out]; exact HD.out.symm⟩]
                    clear hd
                    subst hE
                    go_wp2_with fail
                    go_ret
                    exact ⟨by rw [HX.out, ← HIB.out]; simp, HGT.out⟩
                  · have hdb : (d.toList == nm.toList) = false := by
                      rw [beq_eq_false_iff_ne]
                      exact fun e => hdd (bytesEq.1 e)
                    have HDD := hid hdd
                    clear hdd hd
                    go_wp2_with fail
                    refine ⟨⟨j + 1, by omega, by go_num, HGG.out, fun j' h => ?_⟩, by simp [intOf]; omega⟩
                    rcases Nat.lt_or_eq_of_le (Nat.le_of_lt_succ h) with h | rfl
                    · exact HALL.out j' h
                    · rw [← HD.out]; exact HDD.out
                · obtain rfl : j = i := by omega
                  have hE : TW = 0 := by
                    rw [HTW.out]
                    unfold twiceE
                    rw [if_neg]
                    rintro ⟨_, j', h1, h2⟩
                    exact HALL.out j' h1 (by rw [h2]; exact HPI.out)
                  subst hE
                  go_wp2_with fail
                  go_ret
                  exact ⟨by rw [HX.out, ← HIB.out]; simp, grown_trans HW3.out hg⟩
    · have hq1 : ((na : Int) != a) = true := by simpa using h1
      rw [if_pos h1] at hx
      have HX := hid hx
      clear hx
      go_enter Try.func24, Try.ntmps24
      go_upto_region 2 with fail
      clear i0 i1 i2 i3 i4 i5 f0 f1 f2 f3 f4 f5 a0 a1 a2 a3 a4 a5 hz1
      obtain ⟨⟨k0, k1, k2, k3, k4, k5⟩, -⟩ := box6 hbx
      clear hbx
      generalize (w.alloc _) = w0 at *
      go_upto_region 4 with (first | (go_at_call 54; refine (HA.out _).mono ?_; rintro e w1 ⟨rfl, hg⟩; replace hW := grown_trans hW hg; replace k0 := hg.cell k0 (by simp); replace k1 := hg.cell k1 (by simp); replace k2 := hg.cell k2 (by simp); replace k3 := hg.cell k3 (by simp); replace k4 := hg.cell k4 (by simp); replace k5 := hg.cell k5 (by simp); clear hg))
      go_region_held3 (fun w' => w'.cell? ⟨w.heap.size, 0, none⟩ = some (.int .i64 k) ∧ w'.cell? ⟨w.heap.size, 1, none⟩ = some (.string nm) ∧ w'.cell? ⟨w.heap.size, 2, none⟩ = some (.slice pa na ca) ∧ w'.cell? ⟨w.heap.size, 3, none⟩ = some (.bool g) ∧ w'.cell? ⟨w.heap.size, 4, none⟩ = some (.slice p1 n1 c1) ∧ w'.cell? ⟨w.heap.size, 5, none⟩ = some (.slice p2 n2 c2) ∧ w.grownBy w' none) ((try go_split_ands) <;> (repeat' apply And.intro) <;> (first | (with_reducible assumption) | (with_reducible refine (grown_drew _ none).cell ?_ (by simp); with_reducible assumption) | (with_reducible refine grown_trans ?_ (grown_drew _ none); with_reducible assumption))) (first | (go_at_call 54; (with_reducible refine (HA.out _).mono ?_); rintro e w1 ⟨rfl, hg⟩; (first | replace hW := grown_trans hW hg | replace hW := grown_trans (grown_trans hW (grown_drew _ none)) hg); replace k0 := hg.cell k0 (by simp); replace k1 := hg.cell k1 (by simp); replace k2 := hg.cell k2 (by simp); replace k3 := hg.cell k3 (by simp); replace k4 := hg.cell k4 (by simp); replace k5 := hg.cell k5 (by simp); clear hg))
      go_wp2_with fail
      go_ret
      exact ⟨by rw [HX.out]; simp, by first | exact hW | exact grown_trans hW (grown_drew _ none)⟩
end Go.Proofs.Ytdmlcddieadelaa

set_option linter.unusedVariables false
set_option linter.unusedSimpArgs false
namespace Go.Proofs.Ytdmlcddieadelaa
open Go.RowKit Go.Maps _root_.Nm Lx
/-- a goal of a list in memory: its cells, the lengths of its slices -/
def GlAt (w : World) (p : Option Addr) (i : Nat) (cs : List Value) (na n1 n2 : Nat) : Prop := ∃ (b o : Nat) (k : Int) (pa : Option Addr) (ca : Nat) (g : Bool) (p1 : Option Addr) (c1 : Nat) (p2 : Option Addr) (c2 : Nat), p = some ⟨b, o, none⟩ ∧ cs = [.int .i64 k, .slice pa na ca, .bool g, .slice p1 n1 c1, .slice p2 n2 c2] ∧ w.cell? ⟨b, o + i * 5, none⟩ = some (.int .i64 k) ∧ w.cell? ⟨b, o + i * 5 + 1, none⟩ = some (.slice pa na ca) ∧ w.cell? ⟨b, o + i * 5 + 2, none⟩ = some (.bool g) ∧ w.cell? ⟨b, o + i * 5 + 3, none⟩ = some (.slice p1 n1 c1) ∧ w.cell? ⟨b, o + i * 5 + 4, none⟩ = some (.slice p2 n2 c2)
theorem GlAt.keep {w w' : World} {p : Option Addr} {i : Nat} {cs : List Value} {na n1 n2 : Nat} (h : GlAt w p i cs na n1 n2) (hg : w.grownBy w' none) : GlAt w' p i cs na n1 n2 := by
  obtain ⟨b, o, k, pa, ca, g, p1, c1, p2, c2, h1, h2, a0, a1, a2, a3, a4⟩ := h
  exact ⟨b, o, k, pa, ca, g, p1, c1, p2, c2, h1, h2, hg.cell a0 (by simp), hg.cell a1 (by simp), hg.cell a2 (by simp), hg.cell a3 (by simp), hg.cell a4 (by simp)⟩
/-- the first error of a list of errors -/
def scanE (X : Nat → Int) : Nat → Nat → Int
  | _, 0 => 0
  | k, f + 1 => if X k = 0 then scanE X (k + 1) f else X k
theorem scanE_step {X : Nat → Int} {k n : Nat} (hk : k < n) : scanE X k (n - k) = if X k = 0 then scanE X (k + 1) (n - (k + 1)) else X k := by
  rw [show n - k = (n - (k + 1)) + 1 by omega]
  rfl
/-- the error of a figure -/
def figE (nS nG : Nat) (E Y : Nat → Int) : Int := if 40 < nS ∨ 8 < nG then 4 else if scanE E 0 nS = 0 then scanE Y 0 nG else scanE E 0 nS
open Classical in
/-- the names that have been met behind k steps -/
noncomputable def metS (P : Nat → ByteArray) (k : Nat) : ByteArray → Bool := fun x => decide (x.data.toList ≠ [] ∧ ∃ j, j < k ∧ P j = x)
open Classical in
theorem metS_succ (P : Nat → ByteArray) (k : Nat) (b : Bool) (hb : b = true ↔ (P k).data.toList ≠ []) : (fun x => if x = P k then b else metS P k x) = metS P (k + 1) := by
  funext x
  by_cases e : x = P k
  · subst e
    rw [if_pos rfl, Bool.eq_iff_iff, hb]
    unfold metS
    rw [decide_eq_true_eq]
    exact ⟨fun h => ⟨h, k, by omega, rfl⟩, fun h => h.1⟩
  · rw [if_neg e]
    unfold metS
    rw [Bool.eq_iff_iff, decide_eq_true_eq, decide_eq_true_eq]
    constructor
    · rintro ⟨h1, j, h2, h3⟩
      exact ⟨h1, j, by omega, h3⟩
    · rintro ⟨h1, j, h2, h3⟩
      refine ⟨h1, j, ?_, h3⟩
      by_cases e2 : j = k
      · subst e2; exact absurd h3.symm e
      · omega
theorem metS_twice (P : Nat → ByteArray) (k : Nat) : (metS P k (P k) = true → twiceE P k = 7) ∧ (metS P k (P k) = false → twiceE P k = 0) := by
  unfold metS twiceE
  constructor
  · intro h
    rw [decide_eq_true_eq] at h
    rw [if_pos h]
  · intro h
    rw [decide_eq_false_iff_not] at h
    rw [if_neg h]
set_option maxHeartbeats 64000000 in
set_option maxRecDepth 100000 in
theorem rRightFig (pS : Option Addr) (nS cS : Nat) (pG : Option Addr) (nG cG : Nat) (C : Nat → List Value) (P : Nat → ByteArray) (NA N1 N2 : Nat → Nat) (D : Nat → List Value) (MA M1 M2 : Nat → Nat) (E X Y : Nat → Int) (w : World) (hcS : nS ≤ cS ∧ cS ≤ 9223372036854775807) (hcG : nG ≤ cG ∧ cG ≤ 9223372036854775807)
    (hS : ∀ i, i < nS → SpAt w pS i (C i) (P i) (NA i) (N1 i) (N2 i)) (hG : ∀ i, i < nG → GlAt w pG i (D i) (MA i) (M1 i) (M2 i))
    (hE : ∀ i, i < nS → nS ≤ 40 → ∀ W, w.grownBy W none → Calls Try.prog 24 #[.slice pS nS cS, .int .i64 i] W fun e w' => e = .returned (.int .i64 (E i)) ∧ W.grownBy w' none)
    (hY : ∀ i, i < nG → ∀ W, w.grownBy W none → Calls Try.prog 25 #[.agg (D i).toArray, .int .i64 nS] W fun e w' => e = .returned (.int .i64 (Y i)) ∧ W.grownBy w' none)
    (x : Int) (hx : figE nS nG E Y = x) :
    Calls Try.prog 6 #[.agg #[.slice pS nS cS, .slice pG nG cG]] w fun e w' => e = .returned (.int .i64 x) ∧ w.grownBy w' none := by
  have HG := hid hG
  have HY := hid hY
  have HE := hid hE
  obtain ⟨hncS, hcmS⟩ := hcS
  obtain ⟨hncG, hcmG⟩ := hcG
  clear hS hG hY hE
  have hW := World.grownBy_alloc w (.cells #[.slice pS nS cS, .slice pG nG cG] 25 (0, 0)) none
  obtain ⟨⟨k0, k1⟩, -⟩ := box2n (blk0 w (.cells #[.slice pS nS cS, .slice pG nG cG] 25 (0, 0)))
  unfold figE at hx
  by_cases h1 : 40 < nS
  · rw [if_pos (.inl h1)] at hx
    obtain rfl := hx.symm
    clear hx
    have h2 : (40 : Int) < (nS : Int) := by omega
    go_enter Try.func6, Try.ntmps6
    go_upto_region 1 with fail
    generalize (w.alloc _) = w0 at *
    go_wp2_with fail
    go_ret
    exact ⟨rfl, hW⟩
  by_cases h3 : 8 < nG
  · rw [if_pos (.inr h3)] at hx
    obtain rfl := hx.symm
    clear hx
    have h2 : ¬ (40 : Int) < (nS : Int) := by omega
    have h4 : (8 : Int) < (nG : Int) := by omega
    go_enter Try.func6, Try.ntmps6
    go_upto_region 1 with fail
    generalize (w.alloc _) = w0 at *
    go_wp2_with fail
    go_ret
    exact ⟨rfl, hW⟩
  · rw [if_neg (by omega)] at hx
    have h2 : ¬ (40 : Int) < (nS : Int) := by omega
    have h4 : ¬ (8 : Int) < (nG : Int) := by omega
    have HX0 := hid hx
    have HSM := hid (show nS ≤ 40 by omega)
    clear hx
    go_enter Try.func6, Try.ntmps6
    go_upto_region 1 with fail
    generalize (w.alloc _) = w0 at *
    go_wp2_with fail
    clear h1 h2 h3 h4
    have HW2 := hid hW
    have K0 := hid k0
    have K1 := hid k1
    clear hW k0 k1
    go_loopw [21] (fun y wr => ∃ j : Nat, j ≤ nS ∧ y = .int .i64 j ∧ w0.grownBy wr none ∧ Hid ((if scanE E j (nS - j) = 0 then scanE Y 0 nG else scanE E j (nS - j)) = x)) (fun y _ => nS - (intOf y).toNat)
    case atStart => exact ⟨0, Nat.zero_le _, rfl, grown_refl _ _, hid HX0.out⟩
    case round =>
      clear HX0
      obtain ⟨j, hj, rfl, hg, hsc⟩ := hrel
      by_cases hlt : j < nS
      · have hgw := grown_trans HW2.out hg
        have HC := hid (HE.out j hlt HSM.out wr hgw)
        rw [scanE_step hlt] at hsc
        have k0 := hg.cell K0.out (by simp)
        generalize E j = v at *
        by_cases hv : v = 0
        · subst hv
          rw [if_pos rfl] at hsc
          go_wp2_with (go_at_call 24; refine HC.out.mono ?_; rintro e w3 ⟨rfl, hg3⟩)
          exact ⟨⟨j + 1, by omega, by go_num, grown_trans hg hg3, hsc⟩, by simp [intOf]; omega⟩
        · rw [if_neg hv, if_neg hv] at hsc
          obtain rfl := hsc.out
          go_wp2_with (go_at_call 24; refine HC.out.mono ?_; rintro e w3 ⟨rfl, hg3⟩)
          go_ret
          exact ⟨rfl, grown_trans hgw hg3⟩
      · obtain rfl : nS = j := by omega
        have HXX : Hid (scanE Y 0 nG = x) := hid (by
          have := hsc.out
          rwa [Nat.sub_self, show scanE E nS 0 = 0 from rfl, if_pos rfl] at this)
        have k0 := hg.cell K0.out (by simp)
        have k1 := hg.cell K1.out (by simp)
        have hW := grown_trans HW2.out hg
        clear hsc hg HW2 K0 K1
        generalize wr = wb at *
        go_wp2_with fail
        have HW2 := hid hW
        have K0 := hid k0
        have K1 := hid k1
        clear hW k0 k1
        go_loopw [35] (fun y wr => ∃ j : Nat, j ≤ nG ∧ y = .int .i64 j ∧ wb.grownBy wr none ∧ Hid (scanE Y j (nG - j) = x)) (fun y _ => nG - (intOf y).toNat)
        case atStart => exact ⟨0, Nat.zero_le _, rfl, grown_refl _ _, hid HXX.out⟩
        case round =>
          clear HXX
          obtain ⟨j, hj, rfl, hg, hsc⟩ := hrel
          by_cases hlt : j < nG
          · have hgw := grown_trans HW2.out hg
            obtain ⟨b, o, k, pa, ca, g, p1, c1, p2, c2, rfl, hck, a0, a1, a2, a3, a4⟩ := (HG.out j hlt).keep hgw
            have hGB := World.grownBy_alloc wr (.cells #[.int .i64 k, .slice pa (MA j) ca, .bool g, .slice p1 (M1 j) c1, .slice p2 (M2 j) c2] 58 (0, 0)) none
            have HC := hid fun w' (hg' : (wr.alloc (.cells #[.int .i64 k, .slice pa (MA j) ca, .bool g, .slice p1 (M1 j) c1, .slice p2 (M2 j) c2] 58 (0, 0))).grownBy w' none) => HY.out j hlt w' (grown_trans hgw (grown_trans hGB hg'))
            rw [hck] at HC
            rw [scanE_step hlt] at hsc
            have k0 := hGB.cell (hg.cell K0.out (by simp)) (by simp)
            have HGG := hid (grown_trans hg hGB)
            have HGT := hid (grown_trans hgw hGB)
            clear hck hgw hGB hg
            generalize Y j = v at *
            generalize MA j = na at *
            generalize M1 j = n1 at *
            generalize M2 j = n2 at *
            obtain ⟨⟨i0, i1, i2, i3, i4⟩, fa⟩ := box5 (blk0 wr (.cells #[.int .i64 0, .slice none 0 0, .bool false, .slice none 0 0, .slice none 0 0] 58 (0, 0)))
            have f0 := fa 0; have f1 := fa 1; have f2 := fa 2; have f3 := fa 3; have f4 := fa 4
            clear fa
            obtain ⟨⟨b0, b1, b2, b3, b4⟩, -⟩ := box5 (blk0 wr (.cells #[.int .i64 k, .slice pa na ca, .bool g, .slice p1 n1 c1, .slice p2 n2 c2] 58 (0, 0)))
            by_cases hv : v = 0
            · subst hv
              rw [if_pos rfl] at hsc
              go_wp2_with (go_at_call 25; refine (HC.out _ (grown_refl _ _)).mono ?_; rintro e w3 ⟨rfl, hg3⟩)
              exact ⟨⟨j + 1, by omega, by go_num, grown_trans HGG.out hg3, hsc⟩, by simp [intOf]; omega⟩
            · rw [if_neg hv] at hsc
              obtain rfl := hsc.out
              go_wp2_with (go_at_call 25; refine (HC.out _ (grown_refl _ _)).mono ?_; rintro e w3 ⟨rfl, hg3⟩)
              go_ret
              exact ⟨rfl, grown_trans HGT.out hg3⟩
          · obtain rfl : j = nG := by omega
            obtain rfl : x = 0 := by
              have := hsc.out
              rw [Nat.sub_self] at this
              exact this.symm
            go_wp2_with fail
            go_ret
            exact ⟨rfl, grown_trans HW2.out hg⟩
end Go.Proofs.Ytdmlcddieadelaa

set_option linter.unusedVariables false
set_option linter.unusedSimpArgs false
namespace Go.Proofs.Ytdmlcddieadelaa
open Go.ChangeShapes Go.WideShapes Go.ChangeAt Go.RowKit _root_.Nm
theorem cellsIntF : Try.prog.cellsOf 3 = 1 := by kernel_rfl
theorem cellsIntsF : Try.prog.cellsOf 36 = 1 := by kernel_rfl
theorem cells16F : Try.prog.cellsOf 99 = 1 := by kernel_rfl
theorem cellsNatF : Try.prog.cellsOf 52 = 1 := by kernel_rfl
theorem cellsIF : Try.prog.cellsOf 54 = 2 := by kernel_rfl
theorem cellsRatF : Try.prog.cellsOf 56 = 3 := by kernel_rfl
theorem cellsBoolF : Try.prog.cellsOf 4 = 1 := by kernel_rfl
theorem cellsFactF : Try.prog.cellsOf 58 = 5 := by kernel_rfl
theorem bulk_oneF {H : Type} (d : DataW H) : 1 ≤ Rows.uptoBulk d := by
  cases d with
  | lit l => cases l <;> simp [Rows.uptoBulk]
  | _ => simp [Rows.uptoBulk]
theorem bulk_partF {H : Type} {d : DataW H} {l : List (DataW H)} (h : d ∈ l) : Rows.uptoBulk d ≤ Rows.uptoBulkAll l := by
  induction l with
  | nil => cases h
  | cons x r ih =>
    simp only [Rows.uptoBulkAll]
    rcases List.mem_cons.1 h with rfl | h
    · omega
    · have := ih h
      omega
theorem bulkAll_lenF {H : Type} : ∀ (l : List (DataW H)), l.length ≤ Rows.uptoBulkAll l
  | [] => by simp
  | d :: l => by
    have := bulkAll_lenF l
    have := bulk_oneF d
    simp only [Rows.uptoBulkAll, List.length_cons]
    omega
section
variable {H : Type} {enc : TypeId × Value → H} {W : World}
theorem open_natF {fuel : Nat} {cs : List Value} {x : DataW H × List MemPlace} (hf : DataW.trod enc Try.prog W 0 (fun _ => true) true fuel 52 cs = some x) :
    ∃ a n c xs, cs = [.slice a n c] ∧ IRd W .u16 a n c xs ∧ Dg 65536 xs ∧ n + 1 ≤ Rows.uptoBulk x.1 := by
  rcases open_ints Try.underlying52 Try.underlying99 cells16F hf with ⟨hcs, hx⟩ | ⟨a, len', cap', zs, hcs, _, hl, hm, hz, hx, hcell, hwz⟩
  · exact ⟨none, 0, 0, [], hcs, IRd.nil W _, fun y hy => (by cases hy), by rw [hx]; simp [Rows.uptoBulk]⟩
  · simp only [if_true] at hz
    have hb : ∀ z ∈ zs, 0 ≤ z ∧ z ≤ 65535 := fun z hzm => bounds_u16 (hwz z hzm)
    refine ⟨some a, len', cap', (zs.take len').map Int.toNat, hcs, ⟨by simp; omega, hl, by unfold maxLen at hm; omega, fun j hj => ?_⟩, ?_, ?_⟩
    · have hj' : j < len' := by simp at hj; omega
      have hc := hcell j (by omega)
      have hg : zs.getD j 0 = zs[j]'(by omega) := by simp [List.getD, List.getElem?_eq_getElem (show j < zs.length by omega)]
      have hsp := World.cell?_spot (hcell 0 (by omega))
      have ha : ∃ b o, a = ⟨b, o, none⟩ := ⟨a.block, a.off, by
        cases a with
        | mk b o s => simp [Addr.add] at hsp; simp [hsp]⟩
      obtain ⟨b, o, rfl⟩ := ha
      refine ⟨b, o, rfl, ?_⟩
      rw [add_addr] at hc
      rw [hc, hg]
      have := hb _ (List.getElem_mem (show j < zs.length by omega))
      simp only [List.getElem_map, List.getElem_take]
      congr 2; omega
    · intro y hy
      obtain ⟨z, hzm, rfl⟩ := List.mem_map.1 hy
      have := hb z (List.mem_of_mem_take hzm)
      omega
    · rw [hx]
      have h1 := bulkAll_lenF (H := H) (lits .u16 (zs.take len'))
      have h2 : (lits (H := H) .u16 (zs.take len')).length = len' := by simp [lits]; omega
      simp only [Rows.uptoBulk]
      omega
theorem open_intsF {fuel : Nat} {cs : List Value} {x : DataW H × List MemPlace} (hf : DataW.trod enc Try.prog W 0 (fun _ => true) true fuel 36 cs = some x) :
    ∃ a n c zs, cs = [.slice a n c] ∧ ZRd W .i64 a n c zs ∧ n + 1 ≤ Rows.uptoBulk x.1 := by
  rcases open_ints Try.underlying36 Try.underlying3 cellsIntF hf with ⟨hcs, hx⟩ | ⟨a, len', cap', zs, hcs, _, hl, hm, hz, hx, hcell, hwz⟩
  · exact ⟨none, 0, 0, [], hcs, ZRd.nil W _, by rw [hx]; simp [Rows.uptoBulk]⟩
  · simp only [if_true] at hz
    refine ⟨some a, len', cap', zs.take len', hcs, ⟨by simp; omega, hl, by unfold maxLen at hm; omega, fun j hj => ?_⟩, ?_⟩
    · have hj' : j < len' := by simp at hj; omega
      have hc := hcell j (by omega)
      have hg : zs.getD j 0 = zs[j]'(by omega) := by simp [List.getD, List.getElem?_eq_getElem (show j < zs.length by omega)]
      have hsp := World.cell?_spot (hcell 0 (by omega))
      have ha : ∃ b o, a = ⟨b, o, none⟩ := ⟨a.block, a.off, by
        cases a with
        | mk b o s => simp [Addr.add] at hsp; simp [hsp]⟩
      obtain ⟨b, o, rfl⟩ := ha
      refine ⟨b, o, rfl, ?_⟩
      rw [add_addr] at hc
      rw [hc, hg]
      simp
    · rw [hx]
      have h1 := bulkAll_lenF (H := H) (lits .i64 (zs.take len'))
      have h2 : (lits (H := H) .i64 (zs.take len')).length = len' := by simp [lits]; omega
      simp only [Rows.uptoBulk]
      omega
theorem open_ratF {fuel : Nat} {cs : List Value} {x : DataW H × List MemPlace} (hf : DataW.trod enc Try.prog W 0 (fun _ => true) true fuel 56 cs = some x) (hl : cs.length = 3) :
    ∃ g a n c xs b m e ys, cs = [.bool g, .slice a n c, .slice b m e] ∧ IRd W .u16 a n c xs ∧ IRd W .u16 b m e ys ∧ (Dg 65536 xs ∧ Dg 65536 ys) ∧ n + m + 1 ≤ Rows.uptoBulk x.1 := by
  obtain ⟨y0, y1, k, hx, _, h0, h1⟩ := trod_struct2 Try.underlying56 hf
  rw [cellsIF] at h0
  obtain ⟨z0, z1, k', hx', _, g0, g1⟩ := trod_struct2 Try.underlying54 h0
  rw [cellsBoolF] at g0
  rw [cellsNatF] at g1 h1
  match cs, hl with
  | [u, v, t], _ =>
    obtain ⟨b, hbo, _⟩ := DataW.trod_bool Try.underlying4 g0
    obtain ⟨a, n, c, xs, hs, hr, hd, hn⟩ := open_natF g1
    obtain ⟨b', m, e, ys, hs1, hr1, hd1, hm⟩ := open_natF h1
    simp at hbo hs hs1
    subst hbo hs hs1
    refine ⟨b, a, n, c, xs, b', m, e, ys, rfl, hr, hr1, ⟨hd, hd1⟩, ?_⟩
    rw [hx, hx']
    simp only [Rows.uptoBulk, List.map_cons, List.map_nil, Rows.uptoBulkAll]
    omega
/-- a fact in memory -/
def FcRd (w : World) (cs : List Value) : Prop := ∃ (k : Int) (pa : Option Addr) (na ca : Nat) (g : Bool) (p1 : Option Addr) (n1 c1 : Nat) (p2 : Option Addr) (n2 c2 : Nat) (zs : List Int) (xs ys : List Nat),
  cs = [.int .i64 k, .slice pa na ca, .bool g, .slice p1 n1 c1, .slice p2 n2 c2] ∧ ZRd w .i64 pa na ca zs ∧ IRd w .u16 p1 n1 c1 xs ∧ IRd w .u16 p2 n2 c2 ys ∧ (Dg 65536 xs ∧ Dg 65536 ys) ∧ n1 ≤ 1048576 ∧ n2 ≤ 1048576
set_option maxRecDepth 100000 in
theorem open_factF {fuel : Nat} {cs : List Value} {x : DataW H × List MemPlace} (hf : DataW.trod enc Try.prog W 0 (fun _ => true) true fuel 58 cs = some x) (hb : Rows.uptoBulk x.1 ≤ 1048576) : FcRd W cs := by
  cases fuel with
  | zero => simp [DataW.trod] at hf
  | succ fuel =>
  obtain ⟨xs, m, hm, rfl, hl, hlen, hfs⟩ := DataW.trod_struct Try.underlying58 hf
  rw [cellsFactF] at hl
  match cs, hl, xs, hlen with
  | [c0, c1, c2, c3, c4], _, [y0, y1, y2], _ =>
    have h0 := hfs 0 _ rfl
    have h1 := hfs 1 _ rfl
    have h2 := hfs 2 _ rfl
    clear hfs
    simp [cellsIntF, cellsIntsF, cellsRatF] at h0 h1 h2
    obtain ⟨k, hk, _, _⟩ := DataW.trod_int Try.underlying3 h0
    obtain ⟨pa, na, ca, zs, ha, hz, _⟩ := open_intsF h1
    obtain ⟨g, p1, n1, c1', xs, p2, n2, c2', ys, hr, hn, hd, hdg, hrb⟩ := open_ratF h2 rfl
    simp at hk ha hr
    obtain ⟨rfl, rfl, rfl⟩ := hr
    subst hk ha
    have h9 : Rows.uptoBulk y2.1 ≤ 1048576 := Nat.le_trans (bulk_partF (l := [y0.1, y1.1, y2.1]) (by simp)) (by
      simp only [Rows.uptoBulk, List.map_cons, List.map_nil] at hb
      omega)
    exact ⟨k, pa, na, ca, g, p1, n1, c1', p2, n2, c2', zs, xs, ys, rfl, hz, hn, hd, hdg, by omega, by omega⟩
end
end Go.Proofs.Ytdmlcddieadelaa

set_option linter.unusedVariables false
set_option linter.unusedSimpArgs false
namespace Go.Proofs.Ytdmlcddieadelaa
open Go.ChangeShapes Go.WideShapes Go.ChangeAt Go.RowKit _root_.Nm
theorem cellsStrF : Try.prog.cellsOf 9 = 1 := by kernel_rfl
theorem cellsStepF : Try.prog.cellsOf 64 = 6 := by kernel_rfl
theorem cellsStepsF : Try.prog.cellsOf 22 = 1 := by kernel_rfl
theorem cellsFactsF : Try.prog.cellsOf 23 = 1 := by kernel_rfl
/-- a step's cells, and what its slices hold -/
def StR (w : World) (cs : List Value) (nm : ByteArray) (na n1 n2 : Nat) : Prop := ∃ (k : Int) (pa : Option Addr) (ca : Nat) (g : Bool) (p1 : Option Addr) (c1 : Nat) (p2 : Option Addr) (c2 : Nat) (zs : List Int) (xs ys : List Nat),
  cs = [.int .i64 k, .string nm, .slice pa na ca, .bool g, .slice p1 n1 c1, .slice p2 n2 c2] ∧ ZRd w .i64 pa na ca zs ∧ IRd w .u16 p1 n1 c1 xs ∧ IRd w .u16 p2 n2 c2 ys ∧ (Dg 65536 xs ∧ Dg 65536 ys) ∧ nm.size ≤ maxLen
/-- a goal's cells, and what its slices hold -/
def GlR (w : World) (cs : List Value) (na n1 n2 : Nat) : Prop := ∃ (k : Int) (pa : Option Addr) (ca : Nat) (g : Bool) (p1 : Option Addr) (c1 : Nat) (p2 : Option Addr) (c2 : Nat) (zs : List Int) (xs ys : List Nat),
  cs = [.int .i64 k, .slice pa na ca, .bool g, .slice p1 n1 c1, .slice p2 n2 c2] ∧ ZRd w .i64 pa na ca zs ∧ IRd w .u16 p1 n1 c1 xs ∧ IRd w .u16 p2 n2 c2 ys ∧ (Dg 65536 xs ∧ Dg 65536 ys)
section
variable {H : Type} {enc : TypeId × Value → H} {W : World}
set_option maxRecDepth 100000 in
theorem open_stepF {fuel : Nat} {cs : List Value} {x : DataW H × List MemPlace} (hf : DataW.trod enc Try.prog W 0 (fun _ => true) true fuel 64 cs = some x) : ∃ nm na n1 n2, StR W cs nm na n1 n2 := by
  cases fuel with
  | zero => simp [DataW.trod] at hf
  | succ fuel =>
  obtain ⟨xs, m, hm, rfl, hl, hlen, hfs⟩ := DataW.trod_struct Try.underlying64 hf
  rw [cellsStepF] at hl
  match cs, hl, xs, hlen with
  | [c0, c1, c2, c3, c4, c5], _, [y0, y1, y2, y3], _ =>
    have h0 := hfs 0 _ rfl
    have h1 := hfs 1 _ rfl
    have h2 := hfs 2 _ rfl
    have h3 := hfs 3 _ rfl
    clear hfs
    simp [cellsIntF, cellsIntsF, cellsRatF, cellsStrF] at h0 h1 h2 h3
    obtain ⟨k, hk, _, _⟩ := DataW.trod_int Try.underlying3 h0
    obtain ⟨nm, hnm, _, hnl⟩ := DataW.trod_string Try.underlying9 h1
    obtain ⟨pa, na, ca, zs, ha, hz, _⟩ := open_intsF h2
    obtain ⟨g, p1, n1, c1', xs, p2, n2, c2', ys, hr, hn, hd, hdg, hrb⟩ := open_ratF h3 rfl
    simp at hk hnm ha hr
    obtain ⟨rfl, rfl, rfl⟩ := hr
    subst hk hnm ha
    exact ⟨nm, na, n1, n2, k, pa, ca, g, p1, c1', p2, c2', zs, xs, ys, rfl, hz, hn, hd, hdg, hnl⟩
set_option maxRecDepth 100000 in
theorem open_goalF {fuel : Nat} {cs : List Value} {x : DataW H × List MemPlace} (hf : DataW.trod enc Try.prog W 0 (fun _ => true) true fuel 58 cs = some x) : ∃ na n1 n2, GlR W cs na n1 n2 := by
  cases fuel with
  | zero => simp [DataW.trod] at hf
  | succ fuel =>
  obtain ⟨xs, m, hm, rfl, hl, hlen, hfs⟩ := DataW.trod_struct Try.underlying58 hf
  rw [cellsFactF] at hl
  match cs, hl, xs, hlen with
  | [c0, c1, c2, c3, c4], _, [y0, y1, y2], _ =>
    have h0 := hfs 0 _ rfl
    have h1 := hfs 1 _ rfl
    have h2 := hfs 2 _ rfl
    clear hfs
    simp [cellsIntF, cellsIntsF, cellsRatF] at h0 h1 h2
    obtain ⟨k, hk, _, _⟩ := DataW.trod_int Try.underlying3 h0
    obtain ⟨pa, na, ca, zs, ha, hz, _⟩ := open_intsF h1
    obtain ⟨g, p1, n1, c1', xs, p2, n2, c2', ys, hr, hn, hd, hdg, hrb⟩ := open_ratF h2 rfl
    simp at hk ha hr
    obtain ⟨rfl, rfl, rfl⟩ := hr
    subst hk ha
    exact ⟨na, n1, n2, k, pa, ca, g, p1, c1', p2, c2', zs, xs, ys, rfl, hz, hn, hd, hdg⟩
theorem atF {a : Addr} {n k : Nat} {C : Nat → List Value} (hC : ∀ i, i < n → W.cells? 0 (a.add (i * k)) k = some (C i)) (hk : 0 < k) (i : Nat) (hi : i < n) : ∃ (b o : Nat), a = ⟨b, o, none⟩ ∧ (C i).length = k ∧ ∀ j (hj : j < (C i).length), W.cell? ⟨b, o + i * k + j, none⟩ = some (C i)[j] := by
  have h1 := hC i hi
  obtain ⟨_, e2, e3⟩ := World.cells?_some h1
  have h1z := hC 0 (by omega)
  obtain ⟨_, z2, z3⟩ := World.cells?_some h1z
  have hc0 : W.cell? ((a.add (0 * k)).add 0) = some ((C 0)[0]'(by omega)) := by rw [z3 0 (by omega), List.getElem?_eq_getElem (by omega)]
  have hsp := World.cell?_spot hc0
  obtain ⟨b, o, rfl⟩ : ∃ b o, a = ⟨b, o, none⟩ := ⟨a.block, a.off, by
    cases a with
    | mk b o s => simp [Addr.add] at hsp; simp [hsp]⟩
  refine ⟨b, o, rfl, e2, fun j hj => ?_⟩
  have := e3 j (by omega)
  rw [add_addr, add_addr, List.getElem?_eq_getElem (by omega)] at this
  exact this
theorem SpAt.ofF {a : Addr} {i : Nat} {b o : Nat} {cs : List Value} {nm : ByteArray} {na n1 n2 : Nat} (ha : a = ⟨b, o, none⟩) (hc : ∀ j (hj : j < cs.length), W.cell? ⟨b, o + i * 6 + j, none⟩ = some cs[j]) (h : StR W cs nm na n1 n2) : SpAt W (some a) i cs nm na n1 n2 := by
  obtain ⟨k, pa, ca, g, p1, c1, p2, c2, zs, xs, ys, rfl, _⟩ := h
  subst ha
  exact ⟨b, o, k, pa, ca, g, p1, c1, p2, c2, rfl, rfl, hc 0 (by simp), hc 1 (by simp), hc 2 (by simp), hc 3 (by simp), hc 4 (by simp), hc 5 (by simp)⟩
theorem GlAt.ofF {a : Addr} {i : Nat} {b o : Nat} {cs : List Value} {na n1 n2 : Nat} (ha : a = ⟨b, o, none⟩) (hc : ∀ j (hj : j < cs.length), W.cell? ⟨b, o + i * 5 + j, none⟩ = some cs[j]) (h : GlR W cs na n1 n2) : GlAt W (some a) i cs na n1 n2 := by
  obtain ⟨k, pa, ca, g, p1, c1, p2, c2, zs, xs, ys, rfl, _⟩ := h
  subst ha
  exact ⟨b, o, k, pa, ca, g, p1, c1, p2, c2, rfl, rfl, hc 0 (by simp), hc 1 (by simp), hc 2 (by simp), hc 3 (by simp), hc 4 (by simp)⟩
set_option maxRecDepth 100000 in
theorem open_stepsF {fuel : Nat} {cs : List Value} {x : DataW H × List MemPlace} (hf : DataW.trod enc Try.prog W 0 (fun _ => true) true fuel 22 cs = some x) :
    ∃ (p : Option Addr) (n c : Nat) (C : Nat → List Value) (P : Nat → ByteArray) (NA N1 N2 : Nat → Nat), cs = [.slice p n c] ∧ (n ≤ c ∧ c ≤ 9223372036854775807) ∧ (∀ i, i < n → SpAt W p i (C i) (P i) (NA i) (N1 i) (N2 i) ∧ StR W (C i) (P i) (NA i) (N1 i) (N2 i)) := by
  rcases DataW.trod_slice Try.underlying22 hf with ⟨hcs, _⟩ | ⟨a, len, cap, elems, rest, n2, _, hcs, hx0, _, hl, hcap, hel, hat, _, _⟩
  · exact ⟨none, 0, 0, fun _ => [], fun _ => ⟨#[]⟩, fun _ => 0, fun _ => 0, fun _ => 0, hcs, ⟨Nat.le_refl _, by omega⟩, fun i hi => absurd hi (Nat.not_lt_zero i)⟩
  · rw [cellsStepF] at hat
    have hone : ∀ i (hi : i < len), ∃ q : List Value × ByteArray × Nat × Nat × Nat, W.cells? 0 (a.add (i * 6)) 6 = some q.1 ∧ StR W q.1 q.2.1 q.2.2.1 q.2.2.2.1 q.2.2.2.2 := by
      intro i hi
      have h := hat i hi
      rw [List.getElem?_eq_getElem (by omega), Option.bind_eq_some_iff] at h
      obtain ⟨ci, hc, ht⟩ := h
      obtain ⟨nm, na, n1, n2, hs⟩ := open_stepF ht
      exact ⟨(ci, nm, na, n1, n2), hc, hs⟩
    obtain ⟨Q, hQ⟩ : ∃ Q : Nat → List Value × ByteArray × Nat × Nat × Nat, ∀ i (hi : i < len), W.cells? 0 (a.add (i * 6)) 6 = some (Q i).1 ∧ StR W (Q i).1 (Q i).2.1 (Q i).2.2.1 (Q i).2.2.2.1 (Q i).2.2.2.2 :=
      ⟨fun i => if hi : i < len then Classical.choose (hone i hi) else ([], ⟨#[]⟩, 0, 0, 0), fun i hi => by
        dsimp only
        rw [dif_pos hi]
        exact Classical.choose_spec (hone i hi)⟩
    refine ⟨some a, len, cap, fun i => (Q i).1, fun i => (Q i).2.1, fun i => (Q i).2.2.1, fun i => (Q i).2.2.2.1, fun i => (Q i).2.2.2.2, hcs, ⟨hl, by unfold maxLen at hcap; omega⟩, fun i hi => ?_⟩
    obtain ⟨b, o, ha, _, hc⟩ := atF (n := len) (fun i hi => (hQ i hi).1) (by omega) i hi
    exact ⟨SpAt.ofF ha hc (hQ i hi).2, (hQ i hi).2⟩
set_option maxRecDepth 100000 in
theorem open_goalsF {fuel : Nat} {cs : List Value} {x : DataW H × List MemPlace} (hf : DataW.trod enc Try.prog W 0 (fun _ => true) true fuel 23 cs = some x) :
    ∃ (p : Option Addr) (n c : Nat) (C : Nat → List Value) (NA N1 N2 : Nat → Nat), cs = [.slice p n c] ∧ (n ≤ c ∧ c ≤ 9223372036854775807) ∧ (∀ i, i < n → GlAt W p i (C i) (NA i) (N1 i) (N2 i) ∧ GlR W (C i) (NA i) (N1 i) (N2 i)) := by
  rcases DataW.trod_slice Try.underlying23 hf with ⟨hcs, _⟩ | ⟨a, len, cap, elems, rest, n2, _, hcs, hx0, _, hl, hcap, hel, hat, _, _⟩
  · exact ⟨none, 0, 0, fun _ => [], fun _ => 0, fun _ => 0, fun _ => 0, hcs, ⟨Nat.le_refl _, by omega⟩, fun i hi => absurd hi (Nat.not_lt_zero i)⟩
  · rw [cellsFactF] at hat
    have hone : ∀ i (hi : i < len), ∃ q : List Value × Nat × Nat × Nat, W.cells? 0 (a.add (i * 5)) 5 = some q.1 ∧ GlR W q.1 q.2.1 q.2.2.1 q.2.2.2 := by
      intro i hi
      have h := hat i hi
      rw [List.getElem?_eq_getElem (by omega), Option.bind_eq_some_iff] at h
      obtain ⟨ci, hc, ht⟩ := h
      obtain ⟨na, n1, n2, hs⟩ := open_goalF ht
      exact ⟨(ci, na, n1, n2), hc, hs⟩
    obtain ⟨Q, hQ⟩ : ∃ Q : Nat → List Value × Nat × Nat × Nat, ∀ i (hi : i < len), W.cells? 0 (a.add (i * 5)) 5 = some (Q i).1 ∧ GlR W (Q i).1 (Q i).2.1 (Q i).2.2.1 (Q i).2.2.2 :=
      ⟨fun i => if hi : i < len then Classical.choose (hone i hi) else ([], 0, 0, 0), fun i hi => by
        dsimp only
        rw [dif_pos hi]
        exact Classical.choose_spec (hone i hi)⟩
    refine ⟨some a, len, cap, fun i => (Q i).1, fun i => (Q i).2.1, fun i => (Q i).2.2.1, fun i => (Q i).2.2.2, hcs, ⟨hl, by unfold maxLen at hcap; omega⟩, fun i hi => ?_⟩
    obtain ⟨b, o, ha, _, hc⟩ := atF (n := len) (fun i hi => (hQ i hi).1) (by omega) i hi
    exact ⟨GlAt.ofF ha hc (hQ i hi).2, (hQ i hi).2⟩
theorem open_figF {fuel : Nat} {cs : List Value} {x : DataW H × List MemPlace} (hf : DataW.trod enc Try.prog W 0 (fun _ => true) true fuel 25 cs = some x) (hlc : cs.length = 2) :
    ∃ (pS : Option Addr) (nS cS : Nat) (pG : Option Addr) (nG cG : Nat) (C : Nat → List Value) (P : Nat → ByteArray) (NA N1 N2 : Nat → Nat) (D : Nat → List Value) (MA M1 M2 : Nat → Nat), cs = [.slice pS nS cS, .slice pG nG cG] ∧ (nS ≤ cS ∧ cS ≤ 9223372036854775807) ∧ (nG ≤ cG ∧ cG ≤ 9223372036854775807) ∧
      (∀ i, i < nS → SpAt W pS i (C i) (P i) (NA i) (N1 i) (N2 i) ∧ StR W (C i) (P i) (NA i) (N1 i) (N2 i)) ∧ (∀ i, i < nG → GlAt W pG i (D i) (MA i) (M1 i) (M2 i) ∧ GlR W (D i) (MA i) (M1 i) (M2 i)) := by
  obtain ⟨y0, y1, k, hx, _, h0, h1⟩ := trod_struct2 Try.underlying25 hf
  rw [cellsStepsF] at h0
  rw [cellsFactsF] at h1
  match cs, hlc with
  | [u, v], _ =>
    simp at h0 h1
    obtain ⟨pS, nS, cS, C, P, NA, N1, N2, e1, h2, h3⟩ := open_stepsF h0
    obtain ⟨pG, nG, cG, D, MA, M1, M2, e2, h4, h5⟩ := open_goalsF h1
    simp at e1 e2
    subst e1 e2
    exact ⟨pS, nS, cS, pG, nG, cG, C, P, NA, N1, N2, D, MA, M1, M2, rfl, h2, h4, h3, h5⟩
end
end Go.Proofs.Ytdmlcddieadelaa

set_option linter.unusedVariables false
set_option linter.unusedSimpArgs false
namespace Go.Proofs.Ytdmlcddieadelaa
open Go.ChangeShapes Go.WideShapes Go.ChangeAt Go.RowKit _root_.Nm
def StB (w : World) (cs : List Value) (nm : ByteArray) (na n1 n2 : Nat) : Prop := StR w cs nm na n1 n2 ∧ n1 ≤ 1048576 ∧ n2 ≤ 1048576
def GlB (w : World) (cs : List Value) (na n1 n2 : Nat) : Prop := GlR w cs na n1 n2 ∧ n1 ≤ 1048576 ∧ n2 ≤ 1048576
section
variable {H : Type} {enc : TypeId × Value → H} {W : World}
set_option maxRecDepth 100000 in
theorem open_stepH {fuel : Nat} {cs : List Value} {x : DataW H × List MemPlace} (hf : DataW.trod enc Try.prog W 0 (fun _ => true) true fuel 64 cs = some x) (hb : Rows.uptoBulk x.1 ≤ 1048576) : ∃ nm na n1 n2, StB W cs nm na n1 n2 := by
  cases fuel with
  | zero => simp [DataW.trod] at hf
  | succ fuel =>
  obtain ⟨xs, m, hm, rfl, hl, hlen, hfs⟩ := DataW.trod_struct Try.underlying64 hf
  rw [cellsStepF] at hl
  match cs, hl, xs, hlen with
  | [c0, c1, c2, c3, c4, c5], _, [y0, y1, y2, y3], _ =>
    have h0 := hfs 0 _ rfl
    have h1 := hfs 1 _ rfl
    have h2 := hfs 2 _ rfl
    have h3 := hfs 3 _ rfl
    clear hfs
    simp [cellsIntF, cellsIntsF, cellsRatF, cellsStrF] at h0 h1 h2 h3
    obtain ⟨k, hk, _, _⟩ := DataW.trod_int Try.underlying3 h0
    obtain ⟨nm, hnm, _, hnl⟩ := DataW.trod_string Try.underlying9 h1
    obtain ⟨pa, na, ca, zs, ha, hz, _⟩ := open_intsF h2
    obtain ⟨g, p1, n1, c1', xs, p2, n2, c2', ys, hr, hn, hd, hdg, hrb⟩ := open_ratF h3 rfl
    simp at hk hnm ha hr
    obtain ⟨rfl, rfl, rfl⟩ := hr
    subst hk hnm ha
    have h9 : Rows.uptoBulk y3.1 ≤ 1048576 := Nat.le_trans (bulk_partF (l := [y0.1, y1.1, y2.1, y3.1]) (by simp)) (by
      simp only [Rows.uptoBulk, List.map_cons, List.map_nil] at hb
      omega)
    exact ⟨nm, na, n1, n2, ⟨k, pa, ca, g, p1, c1', p2, c2', zs, xs, ys, rfl, hz, hn, hd, hdg, hnl⟩, by omega, by omega⟩
set_option maxRecDepth 100000 in
theorem open_goalH {fuel : Nat} {cs : List Value} {x : DataW H × List MemPlace} (hf : DataW.trod enc Try.prog W 0 (fun _ => true) true fuel 58 cs = some x) (hb : Rows.uptoBulk x.1 ≤ 1048576) : ∃ na n1 n2, GlB W cs na n1 n2 := by
  cases fuel with
  | zero => simp [DataW.trod] at hf
  | succ fuel =>
  obtain ⟨xs, m, hm, rfl, hl, hlen, hfs⟩ := DataW.trod_struct Try.underlying58 hf
  rw [cellsFactF] at hl
  match cs, hl, xs, hlen with
  | [c0, c1, c2, c3, c4], _, [y0, y1, y2], _ =>
    have h0 := hfs 0 _ rfl
    have h1 := hfs 1 _ rfl
    have h2 := hfs 2 _ rfl
    clear hfs
    simp [cellsIntF, cellsIntsF, cellsRatF] at h0 h1 h2
    obtain ⟨k, hk, _, _⟩ := DataW.trod_int Try.underlying3 h0
    obtain ⟨pa, na, ca, zs, ha, hz, _⟩ := open_intsF h1
    obtain ⟨g, p1, n1, c1', xs, p2, n2, c2', ys, hr, hn, hd, hdg, hrb⟩ := open_ratF h2 rfl
    simp at hk ha hr
    obtain ⟨rfl, rfl, rfl⟩ := hr
    subst hk ha
    have h9 : Rows.uptoBulk y2.1 ≤ 1048576 := Nat.le_trans (bulk_partF (l := [y0.1, y1.1, y2.1]) (by simp)) (by
      simp only [Rows.uptoBulk, List.map_cons, List.map_nil] at hb
      omega)
    exact ⟨na, n1, n2, ⟨k, pa, ca, g, p1, c1', p2, c2', zs, xs, ys, rfl, hz, hn, hd, hdg⟩, by omega, by omega⟩
set_option maxRecDepth 100000 in
theorem open_stepsH {fuel : Nat} {cs : List Value} {x : DataW H × List MemPlace} (hf : DataW.trod enc Try.prog W 0 (fun _ => true) true fuel 22 cs = some x) (hb : Rows.uptoBulk x.1 ≤ 1048576) :
    ∃ (p : Option Addr) (n c : Nat) (C : Nat → List Value) (P : Nat → ByteArray) (NA N1 N2 : Nat → Nat), cs = [.slice p n c] ∧ (n ≤ c ∧ c ≤ 9223372036854775807) ∧ (∀ i, i < n → SpAt W p i (C i) (P i) (NA i) (N1 i) (N2 i) ∧ StB W (C i) (P i) (NA i) (N1 i) (N2 i)) := by
  rcases DataW.trod_slice Try.underlying22 hf with ⟨hcs, _⟩ | ⟨a, len, cap, elems, rest, n2, _, hcs, hx0, _, hl, hcap, hel, hat, _, _⟩
  · exact ⟨none, 0, 0, fun _ => [], fun _ => ⟨#[]⟩, fun _ => 0, fun _ => 0, fun _ => 0, hcs, ⟨Nat.le_refl _, by omega⟩, fun i hi => absurd hi (Nat.not_lt_zero i)⟩
  · rw [cellsStepF] at hat
    have hbb : Rows.uptoBulkAll (elems.map (·.1)) ≤ 1048576 := by
      rw [hx0] at hb
      simp only [Rows.uptoBulk] at hb
      omega
    have hbe : ∀ i (hi : i < elems.length), Rows.uptoBulk elems[i].1 ≤ 1048576 := fun i hi => Nat.le_trans (bulk_partF (List.mem_map.2 ⟨elems[i], List.getElem_mem hi, rfl⟩)) hbb
    have hone : ∀ i (hi : i < len), ∃ q : List Value × ByteArray × Nat × Nat × Nat, W.cells? 0 (a.add (i * 6)) 6 = some q.1 ∧ StB W q.1 q.2.1 q.2.2.1 q.2.2.2.1 q.2.2.2.2 := by
      intro i hi
      have h := hat i hi
      rw [List.getElem?_eq_getElem (by omega), Option.bind_eq_some_iff] at h
      obtain ⟨ci, hc, ht⟩ := h
      obtain ⟨nm, na, n1, n2, hs⟩ := open_stepH ht (hbe i (by omega))
      exact ⟨(ci, nm, na, n1, n2), hc, hs⟩
    obtain ⟨Q, hQ⟩ : ∃ Q : Nat → List Value × ByteArray × Nat × Nat × Nat, ∀ i (hi : i < len), W.cells? 0 (a.add (i * 6)) 6 = some (Q i).1 ∧ StB W (Q i).1 (Q i).2.1 (Q i).2.2.1 (Q i).2.2.2.1 (Q i).2.2.2.2 :=
      ⟨fun i => if hi : i < len then Classical.choose (hone i hi) else ([], ⟨#[]⟩, 0, 0, 0), fun i hi => by
        dsimp only
        rw [dif_pos hi]
        exact Classical.choose_spec (hone i hi)⟩
    refine ⟨some a, len, cap, fun i => (Q i).1, fun i => (Q i).2.1, fun i => (Q i).2.2.1, fun i => (Q i).2.2.2.1, fun i => (Q i).2.2.2.2, hcs, ⟨hl, by unfold maxLen at hcap; omega⟩, fun i hi => ?_⟩
    obtain ⟨b, o, ha, _, hc⟩ := atF (n := len) (fun i hi => (hQ i hi).1) (by omega) i hi
    exact ⟨SpAt.ofF ha hc (hQ i hi).2.1, (hQ i hi).2⟩
set_option maxRecDepth 100000 in
theorem open_goalsH {fuel : Nat} {cs : List Value} {x : DataW H × List MemPlace} (hf : DataW.trod enc Try.prog W 0 (fun _ => true) true fuel 23 cs = some x) (hb : Rows.uptoBulk x.1 ≤ 1048576) :
    ∃ (p : Option Addr) (n c : Nat) (C : Nat → List Value) (NA N1 N2 : Nat → Nat), cs = [.slice p n c] ∧ (n ≤ c ∧ c ≤ 9223372036854775807) ∧ (∀ i, i < n → GlAt W p i (C i) (NA i) (N1 i) (N2 i) ∧ GlB W (C i) (NA i) (N1 i) (N2 i)) := by
  rcases DataW.trod_slice Try.underlying23 hf with ⟨hcs, _⟩ | ⟨a, len, cap, elems, rest, n2, _, hcs, hx0, _, hl, hcap, hel, hat, _, _⟩
  · exact ⟨none, 0, 0, fun _ => [], fun _ => 0, fun _ => 0, fun _ => 0, hcs, ⟨Nat.le_refl _, by omega⟩, fun i hi => absurd hi (Nat.not_lt_zero i)⟩
  · rw [cellsFactF] at hat
    have hbb : Rows.uptoBulkAll (elems.map (·.1)) ≤ 1048576 := by
      rw [hx0] at hb
      simp only [Rows.uptoBulk] at hb
      omega
    have hbe : ∀ i (hi : i < elems.length), Rows.uptoBulk elems[i].1 ≤ 1048576 := fun i hi => Nat.le_trans (bulk_partF (List.mem_map.2 ⟨elems[i], List.getElem_mem hi, rfl⟩)) hbb
    have hone : ∀ i (hi : i < len), ∃ q : List Value × Nat × Nat × Nat, W.cells? 0 (a.add (i * 5)) 5 = some q.1 ∧ GlB W q.1 q.2.1 q.2.2.1 q.2.2.2 := by
      intro i hi
      have h := hat i hi
      rw [List.getElem?_eq_getElem (by omega), Option.bind_eq_some_iff] at h
      obtain ⟨ci, hc, ht⟩ := h
      obtain ⟨na, n1, n2, hs⟩ := open_goalH ht (hbe i (by omega))
      exact ⟨(ci, na, n1, n2), hc, hs⟩
    obtain ⟨Q, hQ⟩ : ∃ Q : Nat → List Value × Nat × Nat × Nat, ∀ i (hi : i < len), W.cells? 0 (a.add (i * 5)) 5 = some (Q i).1 ∧ GlB W (Q i).1 (Q i).2.1 (Q i).2.2.1 (Q i).2.2.2 :=
      ⟨fun i => if hi : i < len then Classical.choose (hone i hi) else ([], 0, 0, 0), fun i hi => by
        dsimp only
        rw [dif_pos hi]
        exact Classical.choose_spec (hone i hi)⟩
    refine ⟨some a, len, cap, fun i => (Q i).1, fun i => (Q i).2.1, fun i => (Q i).2.2.1, fun i => (Q i).2.2.2, hcs, ⟨hl, by unfold maxLen at hcap; omega⟩, fun i hi => ?_⟩
    obtain ⟨b, o, ha, _, hc⟩ := atF (n := len) (fun i hi => (hQ i hi).1) (by omega) i hi
    exact ⟨GlAt.ofF ha hc (hQ i hi).2.1, (hQ i hi).2⟩
theorem open_figH {fuel : Nat} {cs : List Value} {x : DataW H × List MemPlace} (hf : DataW.trod enc Try.prog W 0 (fun _ => true) true fuel 25 cs = some x) (hb : Rows.uptoBulk x.1 ≤ 1048576) (hlc : cs.length = 2) :
    ∃ (pS : Option Addr) (nS cS : Nat) (pG : Option Addr) (nG cG : Nat) (C : Nat → List Value) (P : Nat → ByteArray) (NA N1 N2 : Nat → Nat) (D : Nat → List Value) (MA M1 M2 : Nat → Nat), cs = [.slice pS nS cS, .slice pG nG cG] ∧ (nS ≤ cS ∧ cS ≤ 9223372036854775807) ∧ (nG ≤ cG ∧ cG ≤ 9223372036854775807) ∧
      (∀ i, i < nS → SpAt W pS i (C i) (P i) (NA i) (N1 i) (N2 i) ∧ StB W (C i) (P i) (NA i) (N1 i) (N2 i)) ∧ (∀ i, i < nG → GlAt W pG i (D i) (MA i) (M1 i) (M2 i) ∧ GlB W (D i) (MA i) (M1 i) (M2 i)) := by
  obtain ⟨y0, y1, k, hx, _, h0, h1⟩ := trod_struct2 Try.underlying25 hf
  rw [cellsStepsF] at h0
  rw [cellsFactsF] at h1
  match cs, hlc with
  | [u, v], _ =>
    simp at h0 h1
    obtain ⟨pS, nS, cS, C, P, NA, N1, N2, e1, h2, h3⟩ := open_stepsH h0 (by rw [hx] at hb; simp only [Rows.uptoBulk, Rows.uptoBulkAll] at hb; omega)
    obtain ⟨pG, nG, cG, D, MA, M1, M2, e2, h4, h5⟩ := open_goalsH h1 (by rw [hx] at hb; simp only [Rows.uptoBulk, Rows.uptoBulkAll] at hb; omega)
    simp at e1 e2
    subst e1 e2
    exact ⟨pS, nS, cS, pG, nG, cG, C, P, NA, N1, N2, D, MA, M1, M2, rfl, h2, h4, h3, h5⟩
end
end Go.Proofs.Ytdmlcddieadelaa
