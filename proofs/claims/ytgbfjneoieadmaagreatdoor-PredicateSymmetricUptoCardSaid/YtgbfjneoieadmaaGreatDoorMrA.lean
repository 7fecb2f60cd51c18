/-
  IntC IntOf IntD IntN IntM IntR GcdR IntE FormsV RatA RatB RatC RatE RatV RatL IntRB RatD RatK Open IntOpen RatOpen Tied ShL RootA Root, in one text.
-/
import Derived.Test.YtgbfjneoieadmaaGreatDoorIntA
import Derived.Deep.RegionHeld3
import Derived.Deep.RegionWith
import Derived.Test.YtgbfjneoieadmaaGreatDoorRefMul
import Derived.Test.YtgbfjneoieadmaaGreatDoorRefAdd
import Derived.Test.YtgbfjneoieadmaaGreatDoorRefSub
import Derived.Test.YtgbfjneoieadmaaGreatDoorRefDiv
import Derived.Deep.LoopGhost
import Derived.Test.YtgbfjneoieadmaaGreatDoorMrZ
import Derived.Test.YtgbfjneoieadmaaGreatDoorForms
import Derived.Deep.DeepCutAuto
import Derived.Test.YtgbfjneoieadmaaGreatDoorRows
import Derived.Test.YtgbfjneoieadmaaGreatDoorMem
import Derived.Test.YtgbfjneoieadmaaGreatDoorDig
import Derived.WalkKit
import Derived.ProofKit
import Derived.OpenShut
import Derived.Test.YtgbfjneoieadmaaGreatDoorTie
import Derived.Test.YtgbfjneoieadmaaGreatDoorCards
import Derived.LaidMore
import Derived.Lib.LaidTab
import Derived.Stop.Joined
import Derived.SevenTiedAt
import Derived.Test.YtgbfjneoieadmaaGreatDoorVal
import Derived.Test.YtgbfjneoieadmaaGreatDoorDivA
import Derived.Laws.BitsAllLaws
import Derived.Test.YtgbfjneoieadmaaGreatDoorArith
import Derived.Test.YtgbfjneoieadmaaGreatDoorDivN

set_option linter.unusedVariables false
set_option linter.unusedSimpArgs false
namespace Go.Proofs.YtgbfjneoieadmaaGreatDoor
open Go.RowKit Nm


theorem intRight_valid {w : World} {g : Bool} {p : Option Addr} {n c : Nat} {X : Int} (hA : IsI w g p n c X) :
    Calls Tryz.prog 200 #[.agg #[.bool g, .slice p n c]] w fun e w' => e = .returned (.bool true) ∧ w.grownBy w' none := by
  obtain ⟨hC, hg⟩ := hA
  have hmax := IRd.max hC
  have hcap := IRd.cap hC
  have hgb := World.grownBy_alloc w (.cells #[.bool g, .slice p n c] 25) none
  by_cases h0 : n = 0
  · subst h0
    have hX : X = 0 := by
      have h1 := hC.len
      have h2 : dg 65536 X.natAbs = [] := List.eq_nil_of_length_eq_zero h1
      have := V_dg (B := 65536) (by omega) X.natAbs
      rw [h2] at this; simp at this; omega
    obtain rfl : g = false := by rw [hg, hX]; rfl
    clear hg
    go_enter Tryz.func200, Tryz.ntmps200
    go_wp2
    go_ret
    exact ⟨rfl, hgb⟩
  · obtain ⟨top, rfl⟩ : ∃ top, n = top + 1 := ⟨n - 1, by omega⟩
    have hlen := hC.len
    have htl : top < (dg 65536 X.natAbs).length := by omega
    have hnz := can_top (Can_dg (B := 65536) (by omega) X.natAbs) top hlen htl
    obtain ⟨b, o, rfl, hc⟩ := IRd.cel hC top htl
    have hb := World.block_lt_of_cell? _ _ hc
    obtain ⟨t, ht⟩ : ∃ t, t = (dg 65536 X.natAbs)[top] := ⟨_, rfl⟩
    rw [← ht] at hc hnz
    have hc2 := hgb.cell hc (by simp)
    have hne : (((t : Int) != 0) = true) := by simp; omega
    clear ht hc hg h0 hlen
    go_enter Tryz.func200, Tryz.ntmps200
    go_wp2
    go_ret
    exact ⟨rfl, hgb⟩

theorem cmpI_bound (x y : Int) : -1 ≤ cmpI x y ∧ cmpI x y ≤ 1 := by unfold cmpI; split <;> (try split) <;> omega

theorem cmpInner_any {w : World} {g h : Bool} {p q : Option Addr} {n m c d N M : Nat} (hA : IsN w p n c N) (hB : IsN w q m d M) :
    Calls Tryz.prog 174 #[.agg #[.bool g, .slice p n c], .agg #[.bool h, .slice q m d]] w fun e w' => e = .returned (.int .i64 (cmpI (N : Nat) (M : Nat))) ∧ w.grownBy w' none := by
  have hg2 := grown_trans (World.grownBy_alloc w (.cells #[.bool g, .slice p n c] 25) none) (World.grownBy_alloc _ (.cells #[.bool h, .slice q m d] 25) none)
  have HC := hid (natCmp_n (hA.keep hg2) (hB.keep hg2))
  generalize cmpI (N : Nat) (M : Nat) = s at *
  go_enter Tryz.func174, Tryz.ntmps174
  go_wp2_with (go_at_call 175; refine HC.out.mono ?_; rintro e w3 ⟨rfl, hg3⟩)
  go_ret
  exact ⟨rfl, grown_trans hg2 hg3⟩

set_option maxHeartbeats 4000000 in
theorem intCmp_any {w : World} {g h : Bool} {p q : Option Addr} {n m c d : Nat} {X Y : Int} (hA : IsZ w g p n c X) (hB : IsZ w h q m d Y) (hn : n ≤ 900000) (hm : m ≤ 900000) :
    Calls Tryz.prog 152 #[.agg #[.bool g, .slice p n c], .agg #[.bool h, .slice q m d]] w fun e w' => e = .returned (.int .i64 (cmpI X Y)) ∧ w.grownBy w' none := by
  have hg2 := grown_trans (grown_trans (World.grownBy_alloc w (.cells #[.bool g, .slice p n c] 25) none) (World.grownBy_alloc _ (.cells #[.bool h, .slice q m d] 25) none)) (grown_drew _ none)
  have S1 := hid (fun W (h : w.grownBy W none) => intSign_any (hA.keep h) hn)
  have S2 := hid (fun W (h : w.grownBy W none) => intSign_any (hB.keep h) hm)
  have C1 := hid (fun W (k : w.grownBy W none) => cmpInner_any (g := g) (h := h) (hA.keep k).1 (hB.keep k).1)
  have C2 := hid (fun W (k : w.grownBy W none) => cmpInner_any (g := h) (h := g) (hB.keep k).1 (hA.keep k).1)
  have b1 := cmpI_bound X 0
  have b2 := cmpI_bound Y 0
  have hcases : (cmpI X 0 < cmpI Y 0 ∧ cmpI X Y = -1) ∨ (cmpI Y 0 < cmpI X 0 ∧ cmpI X Y = 1) ∨
      (cmpI X 0 = cmpI Y 0 ∧ cmpI X 0 < 0 ∧ cmpI (Y.natAbs : Nat) (X.natAbs : Nat) = cmpI X Y) ∨ (cmpI X 0 = cmpI Y 0 ∧ 0 ≤ cmpI X 0 ∧ cmpI (X.natAbs : Nat) (Y.natAbs : Nat) = cmpI X Y) := by
    unfold cmpI
    rcases Int.lt_trichotomy X 0 with h1 | h1 | h1 <;> rcases Int.lt_trichotomy Y 0 with h2 | h2 | h2 <;> (repeat' split) <;> omega
  generalize cmpI (Y.natAbs : Nat) (X.natAbs : Nat) = r1 at *
  generalize cmpI (X.natAbs : Nat) (Y.natAbs : Nat) = r2 at *
  generalize cmpI X Y = r at *
  generalize cmpI X 0 = s at *
  generalize cmpI Y 0 = t at *
  rcases hcases with ⟨k1, rfl⟩ | ⟨k1, rfl⟩ | ⟨rfl, k2, rfl⟩ | ⟨rfl, k2, rfl⟩
  all_goals
    go_enter Tryz.func152, Tryz.ntmps152
    go_wp2_with fail
    go_region_held3 (fun w' => w'.cell? ⟨w.heap.size, 0, none⟩ = some (.bool g) ∧ w'.cell? ⟨w.heap.size, 1, none⟩ = some (.slice p n c) ∧ w'.cell? ⟨w.heap.size + 1, 0, none⟩ = some (.bool h) ∧ w'.cell? ⟨w.heap.size + 1, 1, none⟩ = some (.slice q m d)) (simp [*, go_sem, World.cell?_alloc_past])
      (first
        | (go_at_call 131; ((with_reducible refine (S1.out _ hg2).mono ?_)); rintro e w3 ⟨rfl, hg3⟩; have hc3 := gcell hg3; have hz3 := hg3.size; simp at hz3)
        | (go_at_call 131; ((with_reducible refine (S2.out _ (grown_trans hg2 hg3)).mono ?_)); rintro e w4 ⟨rfl, hg4⟩; have hg24 := grown_trans hg3 hg4; clear hc3 hz3; have hc4 := gcell hg24; have hz4 := hg24.size; simp at hz4))
  all_goals
    have hg4' := grown_trans hg2 hg24
    go_wp2_with (first
      | (go_at_call 174; ((with_reducible refine (C1.out _ hg4').mono ?_)); rintro e w5 ⟨rfl, hg5⟩)
      | (go_at_call 174; ((with_reducible refine (C2.out _ hg4').mono ?_)); rintro e w5 ⟨rfl, hg5⟩))
    go_ret
    first
      | exact ⟨rfl, grown_trans hg4' hg5⟩
      | exact ⟨rfl, hg4'⟩


end Go.Proofs.YtgbfjneoieadmaaGreatDoor

set_option linter.unusedVariables false
set_option linter.unusedSimpArgs false
namespace Go.Proofs.YtgbfjneoieadmaaGreatDoor
open Go.RowKit Nm

theorem dg_len4 {N : Nat} (h : N < W64) : (dg 65536 N).length ≤ 4 := dg_length_le (by omega) (by rw [← W64_eq]; exact h)

theorem intOf_neg {z : Int} {N : Nat} (hz : z = -(N : Int)) (hN : 0 < N) (hb : N < W64) (w : World) :
    Calls Tryz.prog 126 #[.int .i64 z] w (IPost w z 4) := by
  have hneg : z < 0 := by omega
  have hg1 := World.grownBy_alloc w (.cells #[.bool false, .slice none 0 0] 25) none
  have HZ : Hid (IntKind.u64.wrap (-IntKind.u64.wrap (-(N : Int))) = (N : Int)) := hid (by
    have : N < 18446744073709551616 := hb
    rw [IntKind.wrap_u64, IntKind.wrap_u64]; omega)
  have HN := hid hN
  go_enter Tryz.func126, Tryz.ntmps126
  go_wp2_with fail
  refine (of_at _ N HZ.out hb _).mono ?_
  rintro e w3 ⟨p3, c3, rfl, h3, hg3⟩
  go_wp2_with fail
  refine (signed_any (N := N) h3 true).mono ?_
  rintro e w4 ⟨g4, rfl, h4, hg4⟩
  have hg34 := grown_trans hg3 hg4
  have hc4 := gcell hg34
  have hf4 := gfree hg34
  have hz4 := hg34.size
  simp at hz4
  go_wp2_with fail
  rw [sg_true, ← hz] at h4
  exact bodyPost_ret (v := .agg #[.bool g4, .slice p3 _ c3]) (by simp [results, Tryz.results126, go_sem, hc4]) rfl (IPost.close hg1 (heap_alloc_new w _) (Nat.le_refl _) hg34 h4 (dg_len4 hb))

theorem intOf_pos {z : Int} {N : Nat} (hz : z = (N : Int)) (hb : N < W64) (w : World) :
    Calls Tryz.prog 126 #[.int .i64 z] w (IPost w z 4) := by
  have hneg : ¬ z < 0 := by omega
  have hg1 := World.grownBy_alloc w (.cells #[.bool false, .slice none 0 0] 25) none
  have hb2 : (N : Int) ≤ 18446744073709551615 := by have : N < 18446744073709551616 := hb; omega
  go_enter Tryz.func126, Tryz.ntmps126
  go_wp2_with fail
  refine (of_at _ N (by first | rfl | (rw [IntKind.wrap_u64]; omega)) hb _).mono ?_
  rintro e w3 ⟨p3, c3, rfl, h3, hg3⟩
  go_wp2_with fail
  refine (signed_any (N := N) h3 false).mono ?_
  rintro e w4 ⟨g4, rfl, h4, hg4⟩
  have hg34 := grown_trans hg3 hg4
  have hc4 := gcell hg34
  have hf4 := gfree hg34
  have hz4 := hg34.size
  simp at hz4
  go_wp2_with fail
  rw [sg_false, ← hz] at h4
  exact bodyPost_ret (v := .agg #[.bool g4, .slice p3 _ c3]) (by simp [results, Tryz.results126, go_sem, hc4]) rfl (IPost.close hg1 (heap_alloc_new w _) (Nat.le_refl _) hg34 h4 (dg_len4 hb))

theorem intOf_any (z : Int) (w : World) (h1 : -9223372036854775808 ≤ z) (h2 : z ≤ 9223372036854775807) : Calls Tryz.prog 126 #[.int .i64 z] w (IPost w z 4) := by
  have hb : z.natAbs < W64 := by show z.natAbs < 18446744073709551616; omega
  by_cases h : z < 0
  · exact intOf_neg (N := z.natAbs) (by omega) (by omega) hb w
  · exact intOf_pos (N := z.natAbs) (by omega) hb w

end Go.Proofs.YtgbfjneoieadmaaGreatDoor

set_option linter.unusedVariables false
set_option linter.unusedSimpArgs false
namespace Go.Proofs.YtgbfjneoieadmaaGreatDoor
open Go.RowKit Nm

/-- the quotient and the rest of two integers, given by signs and absolute values -/
def qZ (ga gb : Bool) (N M : Nat) : Int := sg (ga != gb) (if ga = true ∧ 0 < N % M then N / M + 1 else N / M)
def rZ (ga : Bool) (N M : Nat) : Nat := if ga = true ∧ 0 < N % M then M - N % M else N % M

/-- what integer.DivMod returns -/
def DmI (w : World) (Q R : Int) (B C : Nat) (e : Ending) (w' : World) : Prop :=
  ∃ g p n c h q m d, e = .returned (.tuple #[.agg #[.bool g, .slice p n c], .agg #[.bool h, .slice q m d], .int .i64 0]) ∧ IsI w' g p n c Q ∧ IsI w' h q m d R ∧ n ≤ B ∧ m ≤ C ∧ w.grownBy w' none

theorem IsI.other {w w' : World} {g : Bool} {p : Option Addr} {n c : Nat} {Z : Int} {G : Nat} {x : Bool} {y : Option Addr} {a b : Nat} {T : TypeId} (h : IsI w g p n c Z) (hb : w.heap[G]? = some (.cells #[.bool x, .slice y a b] T (0, 0))) (hg : w.grownBy w' (some G)) : IsI w' g p n c Z :=
  ⟨IRd.other h.1 hb (fun j z => two_cells x y a b j _ z) hg, h.2⟩

theorem DmI.close {w W w5 : World} {G G2 : Nat} {x x2 : Bool} {y y2 : Option Addr} {a b a2 b2 : Nat} {T T2 : TypeId} {g h : Bool} {p q : Option Addr} {n c m d : Nat} {Q R : Int} {B C : Nat}
    (hg3 : w.grownBy W none) (hW : W.heap[G]? = some (.cells #[.bool x, .slice y a b] T (0, 0))) (hW2 : W.heap[G2]? = some (.cells #[.bool x2, .slice y2 a2 b2] T2 (0, 0))) (hG : w.heap.size ≤ G) (hG2 : w.heap.size ≤ G2) (hne : G2 ≠ G)
    (hg35 : W.grownBy w5 none) (h5 : IsI w5 g p n c Q) (h6 : IsI w5 h q m d R) (hn : n ≤ B) (hm : m ≤ C) :
    DmI w Q R B C (.returned (.tuple #[.agg #[.bool g, .slice p n c], .agg #[.bool h, .slice q m d], .int .i64 0]))
      ((((w5.setCell ⟨G, 0, none⟩ (.bool g)).setCell ⟨G, 1, none⟩ (.slice p n c)).setCell ⟨G2, 0, none⟩ (.bool h)).setCell ⟨G2, 1, none⟩ (.slice q m d)) := by
  have hb : w5.heap[G]? = some (.cells #[.bool x, .slice y a b] T (0, 0)) := (hg35.block G (lt_of_block hW) (by simp)).trans hW
  have hb2 : w5.heap[G2]? = some (.cells #[.bool x2, .slice y2 a2 b2] T2 (0, 0)) := (hg35.block G2 (lt_of_block hW2) (by simp)).trans hW2
  have h56 : w5.grownBy ((w5.setCell ⟨G, 0, none⟩ (.bool g)).setCell ⟨G, 1, none⟩ (.slice p n c)) (some G) := grown_trans (grown_setCell _ _ _) (grown_setCell _ ⟨G, 1, none⟩ _)
  have hb3 := (h56.block G2 (lt_of_block hb2) (by simpa using hne)).trans hb2
  generalize (w5.setCell ⟨G, 0, none⟩ (.bool g)).setCell ⟨G, 1, none⟩ (.slice p n c) = w6 at *
  have h67 : w6.grownBy ((w6.setCell ⟨G2, 0, none⟩ (.bool h)).setCell ⟨G2, 1, none⟩ (.slice q m d)) (some G2) := grown_trans (grown_setCell _ _ _) (grown_setCell _ ⟨G2, 1, none⟩ _)
  exact ⟨g, p, n, c, h, q, m, d, rfl, (h5.other hb h56).other hb3 h67, (h6.other hb h56).other hb3 h67, hn, hm,
    grown_new (grown_new (grown_trans hg3 hg35) h56 (fun g e => by cases e; exact hG)) h67 (fun g e => by cases e; exact hG2)⟩

theorem four_third (w : World) (A B C D : Obj) : ((((w.alloc A).alloc B).alloc C).alloc D).heap[w.heap.size + 2]? = some C := by
  exact (Below.heap_alloc (((w.alloc A).alloc B).alloc C) D (w.heap.size + 2) (by simp)).trans (third w A B C)
theorem four_fourth (w : World) (A B C D : Obj) : ((((w.alloc A).alloc B).alloc C).alloc D).heap[w.heap.size + 3]? = some D := by
  have := heap_alloc_new (((w.alloc A).alloc B).alloc C) D
  simpa using this

theorem dg_div_len {N M n : Nat} (h : N < 65536 ^ n) : (dg 65536 (N / M)).length ≤ n := dg_length_le (by omega) (Nat.lt_of_le_of_lt (Nat.div_le_self _ _) h)
theorem dg_mod_len {N M m : Nat} (h : M < 65536 ^ m) (hM : 0 < M) : (dg 65536 (N % M)).length ≤ m := dg_length_le (by omega) (Nat.lt_trans (Nat.mod_lt _ hM) h)

end Go.Proofs.YtgbfjneoieadmaaGreatDoor

set_option linter.unusedVariables false
set_option linter.unusedSimpArgs false
namespace Go.Proofs.YtgbfjneoieadmaaGreatDoor
open Go.RowKit Nm

set_option maxHeartbeats 2000000 in
theorem intNorm_any {w : World} {p : Option Addr} {n c : Nat} {g : Bool} {Z : Int} (hA : IsZ w g p n c Z) (hn : n ≤ 400000) :
    Calls Tryz.prog 165 #[.agg #[.bool g, .slice p n c]] w (IPost w Z n) := by
  have hg2 := grown_trans (World.grownBy_alloc w (.cells #[.bool g, .slice p n c] 25) none) (World.grownBy_alloc _ (.cells #[.bool false, .slice none 0 0] 25) none)
  go_enter Tryz.func165, Tryz.ntmps165
  go_wp2_with fail
  go_region_with (first
    | (go_at_call 183; refine (magnitude_any (g := g) ((hA.1.keep hg2).keep (grown_drew _ none)) hn).mono ?_; rintro e w3 ⟨p3, n3, c3, rfl, h3, hn3, hg3⟩; have hc3 := gcell hg3; have hf3 := gfree hg3; have hz3 := hg3.size; simp at hz3)
    | (go_at_call 158; refine (signed_any h3 g).mono ?_; rintro e w4 ⟨g4, rfl, h4, hg4⟩; have hg34 := grown_trans hg3 hg4; clear hc3 hf3 hz3; have hc4 := gcell hg34; have hf4 := gfree hg34; have hz4 := hg34.size; simp at hz4))
  all_goals go_wp2
  all_goals
    rw [sg_z hA] at h4
    exact bodyPost_ret (v := .agg #[.bool g4, .slice p3 n3 c3]) (by simp [results, Tryz.results165, go_sem, hc4]) rfl (IPost.close (grown_trans hg2 (grown_drew _ none)) (second w _ _) (by omega) hg34 h4 hn3)


end Go.Proofs.YtgbfjneoieadmaaGreatDoor

set_option linter.unusedVariables false
set_option linter.unusedSimpArgs false
namespace Go.Proofs.YtgbfjneoieadmaaGreatDoor
open Go.RowKit Nm


set_option maxHeartbeats 4000000 in
theorem intMul_any {w : World} {p q : Option Addr} {n c m d : Nat} {ga gb : Bool} {X Y : Int} (hA : IsZ w ga p n c X) (hB : IsZ w gb q m d Y) (hn : n ≤ 400000) (hm : m ≤ 400000) :
    Calls Tryz.prog 136 #[.agg #[.bool ga, .slice p n c], .agg #[.bool gb, .slice q m d]] w (IPost w (X * Y) (n + m)) := by
  have hg3 := grown_trans (grown_trans (World.grownBy_alloc w (.cells #[.bool ga, .slice p n c] 25) none) (World.grownBy_alloc _ (.cells #[.bool gb, .slice q m d] 25) none)) (World.grownBy_alloc _ (.cells #[.bool false, .slice none 0 0] 25) none)
  have HM := hid (fun W (h : w.grownBy W none) => natMul_n (hA.1.keep h) (hB.1.keep h) hn hm)
  have hsg : sg (ga != gb) (X.natAbs * Y.natAbs) = X * Y := by
    have h1 := sg_z hA
    have h2 := sg_z hB
    generalize X.natAbs = N at *
    generalize Y.natAbs = M at *
    subst h1; subst h2
    cases ga <;> cases gb <;> simp [sg, Int.neg_mul, Int.mul_neg]
  have HSG := hid hsg
  clear hsg
  go_enter Tryz.func136, Tryz.ntmps136
  go_wp2_with fail
  go_region_held3 (fun w' => w'.cell? ⟨w.heap.size, 0, none⟩ = some (.bool ga) ∧ w'.cell? ⟨w.heap.size, 1, none⟩ = some (.slice p n c) ∧ w'.cell? ⟨w.heap.size + 1, 0, none⟩ = some (.bool gb) ∧ w'.cell? ⟨w.heap.size + 1, 1, none⟩ = some (.slice q m d)) (simp [*, go_sem, World.cell?_alloc_past])
    (first
      | (go_at_call 169; refine (HM.out _ (grown_trans hg3 (grown_drew _ none))).mono ?_; rintro e w3 ⟨p3, n3, c3, rfl, h3, hn3, hg3'⟩; have hc3 := gcell hg3'; have hf3 := gfree hg3'; have hz3 := hg3'.size; simp at hz3)
      | (go_at_call 158; refine (signed_any h3 (ga != gb)).mono ?_; rintro e w4 ⟨g4, rfl, h4, hg4⟩; have hg34 := grown_trans hg3' hg4; clear hc3 hf3 hz3; have hc4 := gcell hg34; have hf4 := gfree hg34; have hz4 := hg34.size; simp at hz4))
  all_goals go_wp2
  all_goals
    rw [HSG.out] at h4
    exact bodyPost_ret (v := .agg #[.bool g4, .slice p3 n3 c3]) (by simp [results, Tryz.results136, go_sem, hc4]) rfl (IPost.close (grown_trans hg3 (grown_drew _ none)) (third w _ _ _) (by omega) hg34 h4 hn3)

end Go.Proofs.YtgbfjneoieadmaaGreatDoor

set_option linter.unusedVariables false
set_option linter.unusedSimpArgs false
namespace Go.Proofs.YtgbfjneoieadmaaGreatDoor
open Go.RowKit Nm

theorem IsC.pos_len {w : World} {p : Option Addr} {n c N : Nat} (hA : IsC w p n c N) : decide (0 < n) = decide (0 < N) := by
  have hn : n = 0 ↔ N = 0 := by
    rw [← hA.len]
    constructor
    · intro h
      have h2 : dg 65536 N = [] := List.eq_nil_of_length_eq_zero h
      have := V_dg (B := 65536) (by omega) N
      rw [h2] at this; exact this.symm
    · rintro rfl; rfl
  by_cases h : 0 < n
  · rw [decide_eq_true h, decide_eq_true (by omega)]
  · rw [decide_eq_false h, decide_eq_false (by omega)]

theorem IsI.mk {w : World} {p : Option Addr} {n c N : Nat} (hA : IsC w p n c N) (g : Bool) : IsI w (g && decide (0 < n)) p n c (sg g N) :=
  ⟨by rw [sg_abs]; exact hA, by rw [hA.pos_len]; exact (sg_neg g N).symm⟩

set_option maxHeartbeats 2000000 in
theorem rOf_any {w : World} {p : Option Addr} {n c N : Nat} (g : Bool) (hA : IsN w p n c N) (hn : n ≤ 4000000) :
    Calls Tryz.prog 142 #[.bool g, .slice p n c] w (IPost w (sg g N) n) := by
  have hg1 := World.grownBy_alloc w (.cells #[.bool false, .slice none 0 0] 25) none
  cases g
  all_goals
    go_enter Tryz.func142, Tryz.ntmps142
    go_wp2_with fail
    refine (refNorm_n (hA.keep hg1) hn).mono ?_
    rintro e w1 ⟨p1, n1, c1, rfl, h1, hn1, hg⟩
    have hc1 := gcell hg
    have hf1 := gfree hg
    have hz1 := hg.size
    simp at hz1
  · have FIN := hid (IsI.mk h1 false)
    go_wp2_with fail
    exact bodyPost_ret (v := .agg #[.bool false, .slice p1 n1 c1]) (by simp [results, Tryz.results142, go_sem, hc1]) rfl (IPost.close hg1 (heap_alloc_new w _) (by omega) hg FIN.out hn1)
  · have FIN := hid (IsI.mk h1 true)
    go_wp2_with fail
    exact bodyPost_ret (v := .agg #[.bool (decide (0 < n1)), .slice p1 n1 c1]) (by simp [results, Tryz.results142, go_sem, hc1]) rfl (IPost.close hg1 (heap_alloc_new w _) (by omega) hg (by simpa using FIN.out) hn1)

set_option maxHeartbeats 2000000 in
theorem rNorm_any {w : World} {p : Option Addr} {n c : Nat} {g : Bool} {Z : Int} (hA : IsZ w g p n c Z) (hn : n ≤ 400000) :
    Calls Tryz.prog 144 #[.agg #[.bool g, .slice p n c]] w (IPost w Z n) := by
  have hg2 := grown_trans (World.grownBy_alloc w (.cells #[.bool g, .slice p n c] 25) none) (World.grownBy_alloc _ (.cells #[.bool false, .slice none 0 0] 25) none)
  go_enter Tryz.func144, Tryz.ntmps144
  go_wp2_with fail
  refine (rOf_any g (hA.1.keep hg2) (by omega)).mono ?_
  rintro e w1 ⟨g1, p1, n1, c1, rfl, h1, hn1, hg⟩
  rw [sg_z hA] at h1
  have hc1 := gcell hg
  have hf1 := gfree hg
  have hz1 := hg.size
  simp at hz1
  go_wp2_with fail
  exact bodyPost_ret (v := .agg #[.bool g1, .slice p1 n1 c1]) (by simp [results, Tryz.results144, go_sem, hc1]) rfl (IPost.close hg2 (second w _ _) (by omega) hg h1 hn1)

set_option maxHeartbeats 2000000 in
theorem rNeg_any {w : World} {p : Option Addr} {n c : Nat} {g : Bool} {Z : Int} (hA : IsZ w g p n c Z) (hn : n ≤ 400000) :
    Calls Tryz.prog 141 #[.agg #[.bool g, .slice p n c]] w (IPost w (-Z) n) := by
  have hg2 := grown_trans (World.grownBy_alloc w (.cells #[.bool g, .slice p n c] 25) none) (World.grownBy_alloc _ (.cells #[.bool false, .slice none 0 0] 25) none)
  go_enter Tryz.func141, Tryz.ntmps141
  go_wp2_with fail
  refine (rOf_any (!g) (hA.1.keep hg2) (by omega)).mono ?_
  rintro e w1 ⟨g1, p1, n1, c1, rfl, h1, hn1, hg⟩
  rw [sg_not, sg_z hA] at h1
  have hc1 := gcell hg
  have hf1 := gfree hg
  have hz1 := hg.size
  simp at hz1
  go_wp2_with fail
  exact bodyPost_ret (v := .agg #[.bool g1, .slice p1 n1 c1]) (by simp [results, Tryz.results141, go_sem, hc1]) rfl (IPost.close hg2 (second w _ _) (by omega) hg h1 hn1)

theorem mul_sgn {w : World} {ga gb : Bool} {p q : Option Addr} {n c m d : Nat} {X Y : Int} (hA : IsZ w ga p n c X) (hB : IsZ w gb q m d Y) : sg (ga != gb) (X.natAbs * Y.natAbs) = X * Y := by
  have h1 := sg_z hA
  have h2 := sg_z hB
  generalize X.natAbs = N at *
  generalize Y.natAbs = M at *
  subst h1; subst h2
  cases ga <;> cases gb <;> simp [sg, Int.neg_mul, Int.mul_neg]

set_option maxHeartbeats 4000000 in
theorem rMul_any {w : World} {p q : Option Addr} {n c m d : Nat} {ga gb : Bool} {X Y : Int} (hA : IsZ w ga p n c X) (hB : IsZ w gb q m d Y) (hn : n ≤ 400000) (hm : m ≤ 400000) :
    Calls Tryz.prog 121 #[.agg #[.bool ga, .slice p n c], .agg #[.bool gb, .slice q m d]] w (IPost w (X * Y) (n + m + 1)) := by
  have hg3 := grown_trans (grown_trans (World.grownBy_alloc w (.cells #[.bool ga, .slice p n c] 25) none) (World.grownBy_alloc _ (.cells #[.bool gb, .slice q m d] 25) none)) (World.grownBy_alloc _ (.cells #[.bool false, .slice none 0 0] 25) none)
  have HM := hid (fun W (h : w.grownBy W none) => refMul_n (hA.1.keep h) (hB.1.keep h) (by omega) (by omega))
  have HSG := hid (mul_sgn hA hB)
  go_enter Tryz.func121, Tryz.ntmps121
  go_wp2_with fail
  go_region_held3 (fun w' => w'.cell? ⟨w.heap.size, 0, none⟩ = some (.bool ga) ∧ w'.cell? ⟨w.heap.size, 1, none⟩ = some (.slice p n c) ∧ w'.cell? ⟨w.heap.size + 1, 0, none⟩ = some (.bool gb) ∧ w'.cell? ⟨w.heap.size + 1, 1, none⟩ = some (.slice q m d)) (simp [*, go_sem, World.cell?_alloc_past])
    (first
      | (go_at_call 129; refine (HM.out _ (grown_trans hg3 (grown_drew _ none))).mono ?_; rintro e w3 ⟨p3, n3, c3, rfl, h3, hn3, hg3'⟩; have hc3 := gcell hg3'; have hf3 := gfree hg3'; have hz3 := hg3'.size; simp at hz3)
      | (go_at_call 142; refine (rOf_any (ga != gb) h3.isN (by omega)).mono ?_; rintro e w4 ⟨g4, p4, n4, c4, rfl, h4, hn4, hg4⟩; have hg34 := grown_trans hg3' hg4; clear hc3 hf3 hz3; have hc4 := gcell hg34; have hf4 := gfree hg34; have hz4 := hg34.size; simp at hz4))
  all_goals go_wp2
  all_goals
    rw [HSG.out] at h4
    exact bodyPost_ret (v := .agg #[.bool g4, .slice p4 n4 c4]) (by simp [results, Tryz.results121, go_sem, hc4]) rfl (IPost.close (grown_trans hg3 (grown_drew _ none)) (third w _ _ _) (by omega) hg34 h4 (by omega))

set_option maxHeartbeats 4000000 in
theorem rAdd_any {w : World} {p q : Option Addr} {n c m d : Nat} {ga gb : Bool} {X Y : Int} (hA : IsZ w ga p n c X) (hB : IsZ w gb q m d Y) (hn : n ≤ 400000) (hm : m ≤ 400000) :
    Calls Tryz.prog 140 #[.agg #[.bool ga, .slice p n c], .agg #[.bool gb, .slice q m d]] w (IPost w (X + Y) (n + m + 1)) := by
  have hg3 := grown_trans (grown_trans (World.grownBy_alloc w (.cells #[.bool ga, .slice p n c] 25) none) (World.grownBy_alloc _ (.cells #[.bool gb, .slice q m d] 25) none)) (World.grownBy_alloc _ (.cells #[.bool false, .slice none 0 0] 25) none)
  have eX := sg_z hA
  have eY := sg_z hB
  have hN := hA.1
  have hM := hB.1
  clear hA hB
  generalize X.natAbs = N at *
  generalize Y.natAbs = M at *
  subst eX; subst eY
  by_cases e : ga = gb
  · subst e
    have hsg : sg ga (N + M) = sg ga N + sg ga M := by cases ga <;> simp [sg] <;> omega
    have HSG := hid hsg
    clear hsg
    have HM := hid (fun W (h : w.grownBy W none) => refAdd_n (hN.keep h) (hM.keep h) (by omega) (by omega))
    go_enter Tryz.func140, Tryz.ntmps140
    go_wp2_with fail
    go_region_held3 (fun w' => w'.cell? ⟨w.heap.size, 0, none⟩ = some (.bool ga) ∧ w'.cell? ⟨w.heap.size, 1, none⟩ = some (.slice p n c) ∧ w'.cell? ⟨w.heap.size + 1, 0, none⟩ = some (.bool ga) ∧ w'.cell? ⟨w.heap.size + 1, 1, none⟩ = some (.slice q m d)) (simp [*, go_sem, World.cell?_alloc_past])
      (first
        | (go_at_call 143; refine (HM.out _ (grown_trans hg3 (grown_drew _ none))).mono ?_; rintro e w3 ⟨p3, n3, c3, rfl, h3, hn3, hg3'⟩; have hc3 := gcell hg3'; have hf3 := gfree hg3'; have hz3 := hg3'.size; simp at hz3)
        | (go_at_call 142; refine (rOf_any ga h3.isN (by omega)).mono ?_; rintro e w4 ⟨g4, p4, n4, c4, rfl, h4, hn4, hg4⟩; have hg34 := grown_trans hg3' hg4; clear hc3 hf3 hz3; have hc4 := gcell hg34; have hf4 := gfree hg34; have hz4 := hg34.size; simp at hz4))
    all_goals go_wp2
    all_goals
      rw [HSG.out] at h4
      exact bodyPost_ret (v := .agg #[.bool g4, .slice p4 n4 c4]) (by simp [results, Tryz.results140, go_sem, hc4]) rfl (IPost.close (grown_trans hg3 (grown_drew _ none)) (third w _ _ _) (by omega) hg34 h4 (by omega))
  · obtain rfl : gb = !ga := by cases ga <;> cases gb <;> simp_all
    clear e
    have hN3 := hN.keep hg3
    have hM3 := hM.keep hg3
    by_cases hle : M ≤ N
    · have hsg : sg ga ((N - M : Nat) : Nat) = sg ga N + sg (!ga) M := by cases ga <;> simp [sg] <;> omega
      have HSG := hid hsg
      clear hsg
      have HS := hid (refSub_n hN3 hM3 (by omega) hle)
      clear hle
      go_enter Tryz.func140, Tryz.ntmps140
      go_wp2_with fail
      refine HS.out.mono ?_
      rintro e w3 ⟨p3, n3, c3, rfl, h3, hn3, hg3'⟩
      have hc3 := gcell hg3'
      have hf3 := gfree hg3'
      have hz3 := hg3'.size
      simp at hz3
      go_wp2_with fail
      refine (rOf_any ga h3.isN (by omega)).mono ?_
      rintro e w4 ⟨g4, p4, n4, c4, rfl, h4, hn4, hg4⟩
      have hg34 := grown_trans hg3' hg4
      clear hc3 hf3 hz3
      have hc4 := gcell hg34
      have hf4 := gfree hg34
      have hz4 := hg34.size
      simp at hz4
      go_wp2_with fail
      rw [HSG.out] at h4
      exact bodyPost_ret (v := .agg #[.bool g4, .slice p4 n4 c4]) (by simp [results, Tryz.results140, go_sem, hc4]) rfl (IPost.close hg3 (third w _ _ _) (by omega) hg34 h4 (by omega))
    · have hsg : sg (!ga) ((M - N : Nat) : Nat) = sg ga N + sg (!ga) M := by cases ga <;> simp [sg] <;> omega
      have HSG := hid hsg
      clear hsg
      have HE := hid (refSub_e hN3 hM3 (by omega))
      have HS := hid (refSub_n hM3 hN3 (by omega) (by omega))
      clear hle
      go_enter Tryz.func140, Tryz.ntmps140
      go_wp2_with fail
      refine HE.out.mono ?_
      rintro e w2 ⟨rfl, rfl⟩
      go_wp2_with fail
      refine HS.out.mono ?_
      rintro e w3 ⟨p3, n3, c3, rfl, h3, hn3, hg3'⟩
      have hc3 := gcell hg3'
      have hf3 := gfree hg3'
      have hz3 := hg3'.size
      simp at hz3
      go_wp2_with fail
      refine (rOf_any (!ga) h3.isN (by omega)).mono ?_
      rintro e w4 ⟨g4, p4, n4, c4, rfl, h4, hn4, hg4⟩
      have hg34 := grown_trans hg3' hg4
      clear hc3 hf3 hz3
      have hc4 := gcell hg34
      have hf4 := gfree hg34
      have hz4 := hg34.size
      simp at hz4
      go_wp2_with fail
      rw [HSG.out] at h4
      exact bodyPost_ret (v := .agg #[.bool g4, .slice p4 n4 c4]) (by simp [results, Tryz.results140, go_sem, hc4]) rfl (IPost.close hg3 (third w _ _ _) (by omega) hg34 h4 (by omega))

end Go.Proofs.YtgbfjneoieadmaaGreatDoor

set_option linter.unusedVariables false
set_option linter.unusedSimpArgs false
namespace Go.Proofs.YtgbfjneoieadmaaGreatDoor
open Go.RowKit Nm

theorem IsC.zero_len {w : World} {p : Option Addr} {n c N : Nat} (h : IsC w p n c N) : (n = 0 ∧ N = 0) ∨ (0 < n ∧ 0 < N) := by
  have hl := h.len
  rcases Nat.eq_zero_or_pos N with h0 | h0
  · subst h0
    rw [dg_zero] at hl
    exact .inl ⟨by simpa using hl.symm, rfl⟩
  · refine .inr ⟨?_, h0⟩
    rcases Nat.eq_zero_or_pos n with h1 | h1
    · have e := V_dg (B := 65536) (by omega) N
      rw [List.eq_nil_of_length_eq_zero (hl.trans h1)] at e
      simp at e; omega
    · exact h1

/-- a call returns the valid Nat of G, of at most k limbs -/
def RPost (w : World) (k G : Nat) (e : Ending) (w' : World) : Prop := ∃ p n c, e = .returned (.slice p n c) ∧ IsC w' p n c G ∧ n ≤ k ∧ w.grownBy w' none

set_option maxHeartbeats 2000000 in
theorem refGcd_n {w : World} {p q : Option Addr} {n c m d N M : Nat} (hA : IsN w p n c N) (hB : IsN w q m d M) (hn : n ≤ 1100000) (hm : m ≤ 1100000) :
    Calls Tryz.prog 76 #[.slice p n c, .slice q m d] w (RPost w (max n m) (Nat.gcd N M)) := by
  obtain ⟨k, hk⟩ : ∃ k, k = max n m := ⟨_, rfl⟩
  obtain ⟨G, hG⟩ : ∃ G, G = Nat.gcd N M := ⟨_, rfl⟩
  rw [← hk, ← hG]
  have hk1 : n ≤ k := by omega
  have hk2 : m ≤ k := by omega
  have hk3 : k ≤ 1100000 := by omega
  have HG := hid hG
  clear hk hG
  go_enter Tryz.func76, Tryz.ntmps76
  go_wp2_with fail
  refine (refNorm_n hA (by omega)).mono ?_
  rintro e w1 ⟨p1, n1, c1, rfl, hA1, hn1, hg1⟩
  go_wp2_with fail
  refine (refNorm_n (hB.keep hg1) (by omega)).mono ?_
  rintro e w2 ⟨p2, n2, c2, rfl, hB2, hn2, hg2⟩
  have hA2 := hA1.keep hg2
  have hW := grown_trans hg1 hg2
  clear hA hB hA1 hg1 hg2
  go_wp2_with fail
  go_loopg [0, 1] M (fun j x y wr => ∃ (p q : Option Addr) (n c m d A : Nat), x = .slice p n c ∧ y = .slice q m d ∧ IsC wr p n c A ∧ IsC wr q m d j ∧ n ≤ k ∧ m ≤ k ∧ w.grownBy wr none ∧ Hid (Nat.gcd A j = G))
  case atStart => exact ⟨_, _, _, _, _, _, N, rfl, rfl, hA2, hB2, by omega, by omega, hW, hid HG.out.symm⟩
  case round =>
    clear hA2 hB2 hW HG
    obtain ⟨p, q, n, c, m, d, A, rfl, rfl, hA, hB, hn, hm, hW, HG⟩ := hrel
    rcases hB.zero_len with ⟨rfl, rfl⟩ | ⟨h1, h2⟩
    · have hF : IsC wr p n c G := by have := HG.out; rw [Nat.gcd_zero_right] at this; exact this ▸ hA
      go_wp2
      go_ret
      exact ⟨p, n, c, rfl, hF, hn, hW⟩
    · have hlt := Nat.mod_lt A h2
      have hi : (0 : Int) < (m : Int) := by omega
      go_wp2_with fail
      refine (refDivMod_n hA.isN hB.isN (by omega) (by omega) h2).mono ?_
      rintro e w3 ⟨p3, n3, c3, p4, n4, c4, rfl, hQ, hR, hn3, hn4, hg3⟩
      have hB3 := hB.keep hg3
      have hW3 := grown_trans hW hg3
      clear hA hB hQ hW hg3
      have HR := hid (And.intro hR hB3)
      clear hR hB3
      go_wp2_with fail
      go_roundg (A % gk)
      case measure => exact hlt
      case rel => exact ⟨_, _, _, _, _, _, gk, rfl, rfl, HR.out.2, HR.out.1, hm, by omega, hW3, hid (by rw [Nat.gcd_comm, ← Nat.gcd_rec, Nat.gcd_comm]; exact HG.out)⟩
end Go.Proofs.YtgbfjneoieadmaaGreatDoor

set_option linter.unusedVariables false
set_option linter.unusedSimpArgs false
namespace Go.Proofs.YtgbfjneoieadmaaGreatDoor
open Go.RowKit Nm


/-- what a division by 0 returns -/
def DmIE (w : World) (e : Ending) (w' : World) : Prop := e = .returned (.tuple #[.agg #[.bool false, .slice none 0 0], .agg #[.bool false, .slice none 0 0], .int .i64 3]) ∧ w.grownBy w' none
theorem DmIE.close {w W w5 : World} {G G2 : Nat} (hg3 : w.grownBy W none) (hG : w.heap.size ≤ G) (hG2 : w.heap.size ≤ G2) (hg35 : W.grownBy w5 none) (a b c d : Value) :
    DmIE w (.returned (.tuple #[.agg #[.bool false, .slice none 0 0], .agg #[.bool false, .slice none 0 0], .int .i64 3])) ((((w5.setCell ⟨G, 0, none⟩ a).setCell ⟨G, 1, none⟩ b).setCell ⟨G2, 0, none⟩ c).setCell ⟨G2, 1, none⟩ d) := by
  have h := grown_trans hg3 hg35
  have h1 : w.grownBy ((w5.setCell ⟨G, 0, none⟩ a).setCell ⟨G, 1, none⟩ b) none := grown_new h (grown_trans (grown_setCell w5 ⟨G, 0, none⟩ a) (grown_setCell _ ⟨G, 1, none⟩ b)) (fun g e => by cases e; exact hG)
  exact ⟨rfl, grown_new h1 (grown_trans (grown_setCell _ ⟨G2, 0, none⟩ c) (grown_setCell _ ⟨G2, 1, none⟩ d)) (fun g e => by cases e; exact hG2)⟩
theorem intGcd_any {w : World} (T : Tb w) {ga gb : Bool} {p q : Option Addr} {n m c d N M : Nat} (hA : IsN w p n c N) (hB : IsN w q m d M) (hn : n ≤ 300000) (hm : m ≤ 300000) :
    Calls Tryz.prog 201 #[.agg #[.bool ga, .slice p n c], .agg #[.bool gb, .slice q m d]] w (fun e w' => ∃ p' n' c', e = .returned (.slice p' n' c') ∧ IsC w' p' n' c' (Nat.gcd N M) ∧ n' ≤ max n m ∧ w.grownBy w' none) := by
  have hg2 := grown_trans (World.grownBy_alloc w (.cells #[.bool ga, .slice p n c] 25) none) (World.grownBy_alloc _ (.cells #[.bool gb, .slice q m d] 25) none)
  have HD := hid (natGcd_n (T.keep hg2) (hA.keep hg2) (hB.keep hg2) (by omega) (by omega))
  go_enter Tryz.func201, Tryz.ntmps201
  go_wp2_with fail
  refine HD.out.mono ?_
  rintro e w1 ⟨p1, n1, c1, rfl, h1, hn1, hg⟩
  go_wp2_with fail
  go_ret
  exact ⟨p1, n1, c1, rfl, h1, hn1, grown_trans hg2 hg⟩
end Go.Proofs.YtgbfjneoieadmaaGreatDoor

set_option linter.unusedVariables false
set_option linter.unusedSimpArgs false
namespace Go.Proofs.YtgbfjneoieadmaaGreatDoor
open Go.RowKit Nm

set_option maxHeartbeats 1000000 in
theorem refBits_any (a : Option Addr) (n c : Nat) (xs : List Nat) (w : World) (h : IRd w .u16 a n c xs) (hd : Dg 65536 xs) (hn : n ≤ 1000000) :
    Calls Tryz.prog 198 #[.slice a n c] w fun e w' => ∃ b : Nat, e = .returned (.int .i64 b) ∧ Hid (IsBits (V 65536 xs) b) ∧ w.grownBy w' none := by
  have hl : (trimR xs).length ≤ n := by rw [← h.len]; exact trimR_length_le xs
  have R1 := hid (refNorm_any a n c xs w h (by omega))
  have hcx := Can_trimR hd
  have HV := hid (V_trimR (B := 65536) xs)
  generalize trimR xs = us at *
  clear h
  by_cases h0 : us.length = 0
  · have hus : us = [] := List.eq_nil_of_length_eq_zero h0
    rw [h0] at R1
    have HU := hid hus
    clear h0 hus
    go_enter Tryz.func198, Tryz.ntmps198
    go_wp2_with (go_at_call 118; refine R1.out.mono ?_; rintro e w1 ⟨p, c', rfl, hr, hg⟩)
    go_ret
    exact ⟨0, rfl, hid (.inl ⟨by rw [← HV.out, HU.out]; rfl, rfl⟩), hg⟩
  · obtain ⟨top, htop⟩ : ∃ top, us.length = top + 1 := ⟨us.length - 1, by omega⟩
    have htl : top < us.length := by omega
    rw [htop] at R1
    obtain ⟨t, ht'⟩ : ∃ t, t = us[top] := ⟨_, rfl⟩
    have htb : t < 65536 := by rw [ht']; exact hcx.1.get _ htl
    have ht0 : t ≠ 0 := by rw [ht']; exact can_top hcx top htop htl
    have HT := hid ht'
    have HTOP := hid htop
    have htn : top + 1 ≤ n := by omega
    have ht0' := hid ht0
    clear ht' htop h0 ht0
    go_enter Tryz.func198, Tryz.ntmps198
    go_wp2_with (go_at_call 118; refine R1.out.mono ?_; rintro e w1 ⟨p, c', rfl, hr, hg⟩; have hmc := hr.cap; have hmm := hr.max; obtain ⟨b, o, rfl, hc⟩ := hr.cel top htl; rw [← HT.out] at hc)
    go_loop [3, 4] (fun s t' => ∃ k : Nat, k ≤ 16 ∧ s = .int .i64 (16 * (top : Int) + k) ∧ t' = .int .u16 (t / 2 ^ k : Nat) ∧ Hid (k = 0 ∨ 2 ^ (k - 1) ≤ t)) (fun _ t' => (intOf t').toNat)
    case atStart => exact ⟨0, by omega, by simp, by simp, hid (.inl rfl)⟩
    case round =>
      obtain ⟨k, hk, rfl, rfl, HK⟩ := hrel
      obtain ⟨q, hq⟩ : ∃ q, q = t / 2 ^ k := ⟨_, rfl⟩
      rw [← hq]
      have hqb : q < 65536 := by rw [hq]; exact Nat.lt_of_le_of_lt (Nat.div_le_self _ _) htb
      have HQ := hid hq
      clear hq
      by_cases hz : 0 < q
      · have hz' : (0 : Int) < (q : Int) := by omega
        have hle : 2 ^ k ≤ t := by
          have h1 := HQ.out
          have : 1 ≤ t / 2 ^ k := by omega
          have := (Nat.le_div_iff_mul_le (Nat.pow_pos (by omega))).1 this
          omega
        have hk15 : k ≤ 15 := by
          refine Nat.le_of_not_lt fun h => ?_
          have : 2 ^ 16 ≤ 2 ^ k := Nat.pow_le_pow_right (by omega) (by omega)
          omega
        have HLE := hid hle
        clear hle
        go_wp2
        refine ⟨⟨k + 1, by omega, by congr 1, ?_, hid (.inr (by simpa using HLE.out))⟩, by simp [intOf]; omega⟩
        congr 1
        rw [Nat.pow_succ, ← Nat.div_div_eq_div_mul, ← HQ.out]; omega
      · obtain rfl : q = 0 := by omega
        go_wp2
        go_ret
        refine ⟨16 * top + k, by congr 1, hid ?_, hg⟩
        have h1 := HQ.out
        have h2 : t < 2 ^ k := (Nat.div_eq_zero_iff_lt (Nat.pow_pos (by omega))).1 h1.symm
        rcases HK.out with rfl | h3
        · exact absurd (by simpa using h2) ht0'.out
        · rw [← HV.out, Nat.mul_comm]
          have hk1 : 1 ≤ k := by
            rcases Nat.eq_zero_or_pos k with rfl | h
            · exact absurd (by simpa using h2) ht0'.out
            · exact h
          exact isBits_top us hcx.1 top k HTOP.out t (by rw [HT.out]; exact List.getElem?_eq_getElem htl) ht0'.out ⟨hk1, h3, h2⟩

set_option maxHeartbeats 1000000 in
theorem natUint_any (a : Option Addr) (n c : Nat) (xs : List Nat) (w : World) (h : IRd w .u16 a n c xs) (hd : Dg 65536 xs) :
    Calls Tryz.prog 204 #[.slice a n c] w fun e w' => e = .returned (.tuple #[.int .u64 (if (trimR xs).length ≤ 4 then V 65536 xs else 0 : Nat), .bool (decide ((trimR xs).length ≤ 4))]) ∧ w = w' := by
  have hl : (trimR xs).length ≤ n := by rw [← h.len]; exact trimR_length_le xs
  have ht := h.take (trimR xs).length hl
  rw [← trimR_eq_take] at ht
  have R1 := hid (trim16 a n c xs w h)
  have hcx := Can_trimR hd
  have hv := V_trimR (B := 65536) xs
  rw [← hv]
  clear hv
  generalize trimR xs = us at *
  clear h
  by_cases h4 : us.length ≤ 4
  · rw [if_pos h4, decide_eq_true h4]
    have hw := hid (word_any a us.length c us w ht hcx.1 h4)
    generalize V 65536 us = x at *
    have h4' : ¬ ((4 : Int) < (us.length : Int)) := by omega
    go_enter Tryz.func204, Tryz.ntmps204
    go_wp2_with (first
      | (go_at_call 178; refine R1.out.mono ?_; rintro e w' ⟨rfl, rfl⟩)
      | (go_at_call 186; refine hw.out.mono ?_; rintro e w' ⟨rfl, rfl⟩))
    go_ret2
    exact ⟨rfl, rfl⟩
  · rw [if_neg h4, decide_eq_false h4]
    have h4' : ((4 : Int) < (us.length : Int)) := by omega
    go_enter Tryz.func204, Tryz.ntmps204
    go_wp2_with (go_at_call 178; refine R1.out.mono ?_; rintro e w' ⟨rfl, rfl⟩)
    go_ret2
    exact ⟨rfl, rfl⟩

end Go.Proofs.YtgbfjneoieadmaaGreatDoor

set_option linter.unusedVariables false
set_option linter.unusedSimpArgs false
namespace Go.Proofs.YtgbfjneoieadmaaGreatDoor
open Go.RowKit Nm

/-- numerator and denominator in lowest terms of N / D -/
def rn (N : Int) (D : Nat) : Int := sg (decide (N < 0)) (N.natAbs / Nat.gcd N.natAbs D)
def rd (N : Int) (D : Nat) : Nat := D / Nat.gcd N.natAbs D

theorem one_word {xs : List Nat} (hd : Dg 65536 xs) (h : V 65536 xs = 1) : (trimR xs).length = 1 := by
  rw [trimR_dg (by omega) hd, h, dg_step 1 (by omega)]
  simp [dg_zero]

theorem sizeOf_any {w : World} {p : Option Addr} {n c N : Nat} (h : IsN w p n c N) :
    Calls Tryz.prog 181 #[.slice p n c] w fun e w' => ∃ (x : Nat) (b : Bool), e = .returned (.agg #[.int .u64 x, .bool b]) ∧ (N = 1 → x = 1 ∧ b = true) ∧ (N ≠ 1 → ¬ (x = 1 ∧ b = true)) ∧ w.grownBy w' none := by
  obtain ⟨L, h1, h2, rfl⟩ := h
  have hgb := World.grownBy_alloc w (.cells #[.int .u64 0, .bool false] 151) none
  have HU := hid (natUint_any p n c L _ (h1.keep hgb) h2)
  have E1 : V 65536 L = 1 → (if (trimR L).length ≤ 4 then V 65536 L else 0) = 1 ∧ decide ((trimR L).length ≤ 4) = true := by
    intro e
    have := one_word h2 e
    rw [if_pos (by omega)]
    exact ⟨e, decide_eq_true (by omega)⟩
  have E2 : V 65536 L ≠ 1 → ¬ ((if (trimR L).length ≤ 4 then V 65536 L else 0) = 1 ∧ decide ((trimR L).length ≤ 4) = true) := by
    rintro e ⟨h3, h4⟩
    rw [if_pos (of_decide_eq_true h4)] at h3
    exact e h3
  generalize (if (trimR L).length ≤ 4 then V 65536 L else 0) = x at *
  generalize decide ((trimR L).length ≤ 4) = b at *
  replace E1 := hid E1
  replace E2 := hid E2
  clear h1 h2
  go_enter Tryz.func181, Tryz.ntmps181
  go_wp2_with (go_at_call 204; (with_reducible refine HU.out.mono ?_); rintro e w' ⟨rfl, rfl⟩)
  exact bodyPost_ret (v := .agg #[.int .u64 x, .bool b]) (by simp [results, Tryz.results181, go_sem]) rfl ⟨x, b, rfl, E1.out, E2.out, World.grownBy_alloc w _ none⟩

theorem isOne_any {w : World} {p : Option Addr} {n c N : Nat} (h : IsN w p n c N) :
    Calls Tryz.prog 163 #[.slice p n c] w fun e w' => e = .returned (.bool (decide (N = 1))) ∧ w.grownBy w' none := by
  have HU := hid (sizeOf_any h)
  by_cases e : N = 1
  · rw [decide_eq_true e]
    go_enter Tryz.func163, Tryz.ntmps163
    go_wp2_with (go_at_call 181; (with_reducible refine HU.out.mono ?_); rintro ee w' ⟨x, b, rfl, h1, h2, hg⟩; obtain ⟨rfl, rfl⟩ := h1 e; clear h1 h2)
    go_ret
    exact ⟨rfl, hg⟩
  · rw [decide_eq_false e]
    go_enter Tryz.func163, Tryz.ntmps163
    go_wp2_with (go_at_call 181; (with_reducible refine HU.out.mono ?_); rintro ee w' ⟨x, b, rfl, h1, h2, hg⟩; replace h2 := h2 e; clear h1)
    all_goals
      first
        | (go_ret; exact ⟨rfl, hg⟩)
        | (rename_i h4 h3; exact absurd ⟨by omega, by simpa using h4⟩ h2)
        | (rename_i h3 h4; exact absurd ⟨by omega, by simpa using h4⟩ h2)
end Go.Proofs.YtgbfjneoieadmaaGreatDoor

set_option linter.unusedVariables false
set_option linter.unusedSimpArgs false
namespace Go.Proofs.YtgbfjneoieadmaaGreatDoor
open Go.RowKit Nm

theorem three_cells (x : Bool) (y z : Option Addr) (a b c d j : Nat) (k : IntKind) (t : Int) : (#[Value.bool x, Value.slice y a b, Value.slice z c d])[j]? ≠ some (.int k t) := by
  match j with
  | 0 => simp
  | 1 => simp
  | 2 => simp
  | j + 3 => simp
theorem set3_grown (w : World) (G : Nat) (a b c : Value) : w.grownBy (((w.setCell ⟨G, 0, none⟩ a).setCell ⟨G, 1, none⟩ b).setCell ⟨G, 2, none⟩ c) (some G) :=
  grown_trans (grown_trans (grown_setCell w ⟨G, 0, none⟩ a) (grown_setCell _ ⟨G, 1, none⟩ b)) (grown_setCell _ ⟨G, 2, none⟩ c)
theorem IsC.other3 {w w' : World} {p : Option Addr} {n c N G : Nat} {x : Bool} {y z : Option Addr} {a b e f : Nat} {T : TypeId} (h : IsC w p n c N) (hb : w.heap[G]? = some (.cells #[.bool x, .slice y a b, .slice z e f] T (0, 0))) (hg : w.grownBy w' (some G)) : IsC w' p n c N :=
  IRd.other h hb (fun j t => three_cells x y z a b e f j _ t) hg
theorem IsN.other2 {w w' : World} {p : Option Addr} {n c N G : Nat} {x : Bool} {y : Option Addr} {a b : Nat} {T : TypeId} (h : IsN w p n c N) (hb : w.heap[G]? = some (.cells #[.bool x, .slice y a b] T (0, 0))) (hg : w.grownBy w' (some G)) : IsN w' p n c N :=
  let ⟨L, h1, h2⟩ := h; ⟨L, IRd.other h1 hb (fun j t => two_cells x y a b j _ t) hg, h2⟩
theorem IsC.other2 {w w' : World} {p : Option Addr} {n c N G : Nat} {x : Bool} {y : Option Addr} {a b : Nat} {T : TypeId} (h : IsC w p n c N) (hb : w.heap[G]? = some (.cells #[.bool x, .slice y a b] T (0, 0))) (hg : w.grownBy w' (some G)) : IsC w' p n c N :=
  IRd.other h hb (fun j t => two_cells x y a b j _ t) hg
theorem IsZ.other2 {w w' : World} {g : Bool} {p : Option Addr} {n c G : Nat} {Z : Int} {x : Bool} {y : Option Addr} {a b : Nat} {T : TypeId} (h : IsZ w g p n c Z) (hb : w.heap[G]? = some (.cells #[.bool x, .slice y a b] T (0, 0))) (hg : w.grownBy w' (some G)) : IsZ w' g p n c Z :=
  ⟨h.1.other2 hb hg, h.2⟩

theorem ratbox_facts {w : World} {G : Nat} {x : Bool} {y z : Option Addr} {a b e f : Nat} {T : TypeId} (hb : w.heap[G]? = some (.cells #[.bool x, .slice y a b, .slice z e f] T (0, 0))) :
    w.cell? ⟨G, 0, none⟩ = some (.bool x) ∧ w.cell? ⟨G, 1, none⟩ = some (.slice y a b) ∧ w.cell? ⟨G, 2, none⟩ = some (.slice z e f) ∧ w.frozen? ⟨G, 0, none⟩ = false ∧ w.frozen? ⟨G, 1, none⟩ = false ∧ w.frozen? ⟨G, 2, none⟩ = false := by
  have k0 := cell_of_row w G 0 _ _ _ hb
  have k1 := cell_of_row w G 1 _ _ _ hb
  have k2 := cell_of_row w G 2 _ _ _ hb
  simp at k0 k1 k2
  exact ⟨k0, k1, k2, frozen_of_row w G 0 _ _ hb, frozen_of_row w G 1 _ _ hb, frozen_of_row w G 2 _ _ hb⟩

/-- a valid Rat of N / D is returned -/
def LPost (w : World) (X : Int) (Y : Nat) (n m : Nat) (e : Ending) (w' : World) : Prop :=
  ∃ (g : Bool) (p : Option Addr) (n' c : Nat) (q : Option Addr) (m' d : Nat), e = .returned (.agg #[.bool g, .slice p n' c, .slice q m' d]) ∧ IsI w' g p n' c X ∧ IsC w' q m' d Y ∧ n' ≤ n ∧ m' ≤ m ∧ w.grownBy w' none

theorem LPost.close {w w5 : World} {G : Nat} {x : Bool} {y z : Option Addr} {a b e f : Nat} {T : TypeId} {g : Bool} {p q : Option Addr} {n' c m' d n m : Nat} {X : Int} {Y : Nat}
    (hW : w5.heap[G]? = some (.cells #[.bool x, .slice y a b, .slice z e f] T (0, 0))) (hG : w.heap.size ≤ G) (hg : w.grownBy w5 none) (h1 : IsI w5 g p n' c X) (h2 : IsC w5 q m' d Y) (hn : n' ≤ n) (hm : m' ≤ m) :
    LPost w X Y n m (.returned (.agg #[.bool g, .slice p n' c, .slice q m' d])) (((w5.setCell ⟨G, 0, none⟩ (.bool g)).setCell ⟨G, 1, none⟩ (.slice p n' c)).setCell ⟨G, 2, none⟩ (.slice q m' d)) := by
  have hs := set3_grown w5 G (.bool g) (.slice p n' c) (.slice q m' d)
  exact ⟨g, p, n', c, q, m', d, rfl, ⟨IsC.other3 h1.1 hW hs, h1.2⟩, h2.other3 hW hs, hn, hm, grown_new hg hs (fun g e => by cases e; exact hG)⟩

def pn (N : Int) (D : Nat) : Int := if D = 0 then 0 else N
def pd (D : Nat) : Nat := if D = 0 then 1 else D
theorem pd_pos (D : Nat) : 0 < pd D := by unfold pd; split <;> omega

/-- the parts of a rational number -/
def PtPost (w : World) (N : Int) (D n m : Nat) (e : Ending) (w' : World) : Prop :=
  ∃ (g : Bool) (p : Option Addr) (n' c : Nat) (q : Option Addr) (m' d : Nat), e = .returned (.tuple #[.agg #[.bool g, .slice p n' c], .slice q m' d]) ∧ IsZ w' g p n' c (pn N D) ∧ IsN w' q m' d (pd D) ∧ n' ≤ n + 4 ∧ m' ≤ m + 4 ∧ w.grownBy w' none

theorem bits_zero {N b : Nat} (hb : IsBits N b) : b = 0 ↔ N = 0 := by
  rcases hb with ⟨h1, h2⟩ | ⟨h1, h2, h3⟩
  · omega
  · have := Nat.pow_pos (n := b - 1) (show 0 < 2 by omega); omega

theorem PtPost.close {w w5 : World} {G : Nat} {x : Bool} {y : Option Addr} {a b : Nat} {T : TypeId} {g : Bool} {p q : Option Addr} {n' c m' d n m D : Nat} {N : Int}
    (hW : w5.heap[G]? = some (.cells #[.bool x, .slice y a b] T (0, 0))) (hG : w.heap.size ≤ G) (hg : w.grownBy w5 none) (h1 : IsZ w5 g p n' c (pn N D)) (h2 : IsN w5 q m' d (pd D)) (hn : n' ≤ n + 4) (hm : m' ≤ m + 4) :
    PtPost w N D n m (.returned (.tuple #[.agg #[.bool g, .slice p n' c], .slice q m' d])) ((w5.setCell ⟨G, 0, none⟩ (.bool g)).setCell ⟨G, 1, none⟩ (.slice p n' c)) := by
  have hs : w5.grownBy ((w5.setCell ⟨G, 0, none⟩ (.bool g)).setCell ⟨G, 1, none⟩ (.slice p n' c)) (some G) := grown_trans (grown_setCell w5 ⟨G, 0, none⟩ _) (grown_setCell _ ⟨G, 1, none⟩ _)
  exact ⟨g, p, n', c, q, m', d, rfl, h1.other2 hW hs, h2.other2 hW hs, hn, hm, grown_new hg hs (fun g e => by cases e; exact hG)⟩

set_option maxHeartbeats 2000000 in
theorem parts_any {w : World} {g : Bool} {p q : Option Addr} {n c m d D : Nat} {N : Int} (hA : IsZ w g p n c N) (hB : IsN w q m d D) (hn : n ≤ 400000) (hm : m ≤ 400000) :
    Calls Tryz.prog 130 #[.agg #[.bool g, .slice p n c, .slice q m d]] w (PtPost w N D n m) := by
  have hb2 := grown_trans (World.grownBy_alloc w (.cells #[.bool g, .slice p n c, .slice q m d] 27) none) (World.grownBy_alloc _ (.cells #[.bool false, .slice none 0 0] 25) none)
  have HB := hid (natBits_n (hB.keep hb2) (by omega))
  by_cases e : D = 0
  · have HO1 := hid (fun W => intOf_any 0 W (by omega) (by omega))
    have HO2 := hid (fun W => of_at 1 1 rfl (by unfold W64; omega) W)
    unfold IPost at HO1
    have e1 : pn N D = 0 := by unfold pn; rw [if_pos e]
    have e2 : pd D = 1 := by unfold pd; rw [if_pos e]
    have l1 : (dg 65536 1).length = 1 := by rw [dg_step 1 (by omega)]; simp [dg_zero]
    have L1 := hid l1
    clear l1
    go_enter Tryz.func130, Tryz.ntmps130
    go_wp2_with fail
    refine HB.out.mono ?_
    rintro ee w' ⟨b, hb, rfl, HI, rfl⟩
    obtain rfl := (bits_zero HI.out).2 e
    go_wp2_with fail
    refine (HO1.out _).mono ?_
    rintro ee w1 ⟨g1, p1, n1, c1, rfl, h1, hn1, hg1⟩
    go_wp2_with fail
    refine (HO2.out _).mono ?_
    rintro ee w2 ⟨p2, c2, rfl, h2, hg2⟩
    have hg := grown_trans hg1 hg2
    have hc := gcell hg
    have hf := gfree hg
    have hz := hg.size
    simp at hz
    replace h1 := h1.keep hg2
    go_wp2_with fail
    exact bodyPost_ret (v := .tuple #[.agg #[.bool g1, .slice p1 n1 c1], .slice p2 (dg 65536 1).length c2]) (by simp [results, Tryz.results130, go_sem, hc]) rfl
      (PtPost.close ((hg.block _ (by simp) (by simp)).trans (second w _ _)) (by omega) (grown_trans hb2 hg) (by rw [e1]; exact h1.z) (by rw [e2]; exact IsC.isN h2) (by omega) (by rw [L1.out]; omega))
  · have e1 : pn N D = N := by unfold pn; rw [if_neg e]
    have e2 : pd D = D := by unfold pd; rw [if_neg e]
    go_enter Tryz.func130, Tryz.ntmps130
    go_wp2_with fail
    refine HB.out.mono ?_
    rintro ee w' ⟨b, hb, rfl, HI, rfl⟩
    have t0 : (((b : Int) == 0) = false) := beq_eq_false_iff_ne.2 (by have := (bits_zero HI.out).1; omega)
    go_wp2_with fail
    go_region
    all_goals go_wp2
    all_goals
      have hb3 := grown_trans (grown_trans (World.grownBy_alloc w (.cells #[.bool g, .slice p n c, .slice q m d] 27) none) (World.grownBy_alloc _ (.cells #[.bool g, .slice p n c] 25) none)) (grown_drew _ none)
      exact bodyPost_ret (v := .tuple #[.agg #[.bool g, .slice p n c], .slice q m d]) (by simp [results, Tryz.results130, go_sem]) rfl
        ⟨g, p, n, c, q, m, d, rfl, by rw [e1]; exact hA.keep hb3, by rw [e2]; exact hB.keep hb3, by omega, by omega, hb3⟩
end Go.Proofs.YtgbfjneoieadmaaGreatDoor

set_option linter.unusedVariables false
set_option linter.unusedSimpArgs false
namespace Go.Proofs.YtgbfjneoieadmaaGreatDoor
open Go.RowKit Nm

theorem IsZ.mk {w : World} {p : Option Addr} {n c M : Nat} (g : Bool) (h : IsN w p n c M) : IsZ w g p n c (sg g M) := ⟨by rw [sg_abs]; exact h, by rw [sg_abs]⟩
theorem sg_flag {w : World} {g : Bool} {p : Option Addr} {n c : Nat} {N : Int} (h : IsZ w g p n c N) (k : Nat) : sg g (N.natAbs / k) = sg (decide (N < 0)) (N.natAbs / k) := by
  have e := h.2
  by_cases h0 : N.natAbs = 0
  · rw [h0]; simp [sg_zero]
  · cases g
    · rw [sg_false] at e
      rw [decide_eq_false (by omega)]
    · rw [sg_true] at e
      rw [decide_eq_true (by omega)]
theorem sg_self (N : Int) : sg (decide (N < 0)) N.natAbs = N := by
  by_cases h : N < 0
  · rw [decide_eq_true h, sg_true]; omega
  · rw [decide_eq_false h, sg_false]; omega
theorem rn_one {N : Int} {D : Nat} (h : Nat.gcd N.natAbs D = 1) : rn N D = N := by unfold rn; rw [h, Nat.div_one, sg_self]
theorem rd_one {N : Int} {D : Nat} (h : Nat.gcd N.natAbs D = 1) : rd N D = D := by unfold rd; rw [h, Nat.div_one]
theorem first_of (w : World) (A B : Obj) : ((w.alloc A).alloc B).heap[w.heap.size]? = some A := (Below.heap_alloc (w.alloc A) B w.heap.size (by simp)).trans (heap_alloc_new w A)

set_option maxHeartbeats 4000000 in
theorem lowest_any {w : World} (T : Tb w) {g : Bool} {p q : Option Addr} {n c m d D : Nat} {N : Int} (hA : IsZ w g p n c N) (hB : IsN w q m d D) (hD : 0 < D) (hn : n ≤ 300000) (hm : m ≤ 300000) :
    Calls Tryz.prog 135 #[.agg #[.bool g, .slice p n c], .slice q m d] w (LPost w (rn N D) (rd N D) n (m + 1)) := by
  have hb2 := grown_trans (World.grownBy_alloc w (.cells #[.bool g, .slice p n c] 25) none) (World.grownBy_alloc _ (.cells #[.bool false, .slice none 0 0, .slice none 0 0] 27) none)
  have H1 := isOne_any (hB.keep hb2)
  have HN := hid (fun W (h : w.grownBy W none) => intNorm_any (hA.keep h) (by omega))
  unfold IPost at HN
  by_cases e : D = 1
  · rw [decide_eq_true e] at H1
    replace H1 := hid H1
    have hgc : Nat.gcd N.natAbs D = 1 := by rw [e]; exact Nat.gcd_one_right _
    have e1 := rn_one hgc
    have e2 : rd N D = 1 := (rd_one hgc).trans e
    have HO2 := hid (fun W => of_at 1 1 rfl (by unfold W64; omega) W)
    have l1 : (dg 65536 1).length = 1 := by rw [dg_step 1 (by omega)]; simp [dg_zero]
    have L1 := hid l1
    clear l1 hgc
    go_enter Tryz.func135, Tryz.ntmps135
    go_wp2_with fail
    refine H1.out.mono ?_
    rintro ee w1 ⟨rfl, hg1⟩
    have hc := gcell hg1
    have hf := gfree hg1
    have hz := hg1.size
    simp at hz
    go_wp2_with fail
    refine (HN.out _ (grown_trans hb2 hg1)).mono ?_
    rintro ee w2 ⟨g1, p1, n1, c1, rfl, h1, hn1, hg2⟩
    go_wp2_with fail
    refine (HO2.out _).mono ?_
    rintro ee w3 ⟨p2, c2, rfl, h2, hg3⟩
    have hg := grown_trans hg1 (grown_trans hg2 hg3)
    clear hc hf hz
    have hc := gcell hg
    have hf := gfree hg
    have hz := hg.size
    simp at hz
    replace h1 := h1.keep hg3
    go_wp2_with fail
    exact bodyPost_ret (v := .agg #[.bool g1, .slice p1 n1 c1, .slice p2 (dg 65536 1).length c2]) (by simp [results, Tryz.results135, go_sem, hc]) rfl
      (LPost.close ((hg.block _ (by simp) (by simp)).trans (second w _ _)) (by omega) (grown_trans hb2 hg) (by rw [e1]; exact h1) (by rw [e2]; exact h2) hn1 (by rw [L1.out]; omega))
  rw [decide_eq_false e] at H1
  replace H1 := hid H1
  have HG := hid (fun W (h : w.grownBy W none) => natGcd_n (T.keep h) (hA.1.keep h) (hB.keep h) (by omega) (by omega))
  have GP : 0 < Nat.gcd N.natAbs D := Nat.gcd_pos_of_pos_right _ hD
  by_cases e1 : Nat.gcd N.natAbs D = 1
  · have E1 := hid (rn_one e1)
    have E2 := hid (rd_one e1)
    have HM := hid (fun W (h : w.grownBy W none) => natNorm_n (hB.keep h) (by omega))
    rw [e1] at HG
    clear e1 GP
    go_enter Tryz.func135, Tryz.ntmps135
    go_wp2_with fail
    refine H1.out.mono ?_
    rintro ee w1 ⟨rfl, hg1⟩
    have hc := gcell hg1
    have hf := gfree hg1
    have hz := hg1.size
    simp at hz
    go_wp2_with fail
    refine (HG.out _ (grown_trans hb2 hg1)).mono ?_
    rintro ee w2 ⟨p1, n1, c1, rfl, h1, hn1, hg2⟩
    replace hg2 := grown_trans hg1 hg2
    clear hc hf hz
    have hc := gcell hg2
    have hf := gfree hg2
    have hz := hg2.size
    simp at hz
    go_wp2_with fail
    refine (isOne_any h1.isN).mono ?_
    rintro ee w3 ⟨rfl, hg3⟩
    rw [decide_eq_true rfl]
    replace hg3 := grown_trans hg2 hg3
    clear hc hf hz
    have hc := gcell hg3
    have hf := gfree hg3
    have hz := hg3.size
    simp at hz
    go_wp2_with fail
    refine (HN.out _ (grown_trans hb2 hg3)).mono ?_
    rintro ee w4 ⟨g2, p2, n2, c2, rfl, h2, hn2, hg4⟩
    replace hg4 := grown_trans hg3 hg4
    clear hc hf hz
    have hc := gcell hg4
    have hf := gfree hg4
    have hz := hg4.size
    simp at hz
    go_wp2_with fail
    refine (HM.out _ (grown_trans hb2 hg4)).mono ?_
    rintro ee w5 ⟨p3, n3, c3, rfl, h3, hn3, hg5⟩
    replace h2 := h2.keep hg5
    replace hg5 := grown_trans hg4 hg5
    clear hc hf hz
    have hc := gcell hg5
    have hf := gfree hg5
    have hz := hg5.size
    simp at hz
    go_wp2_with fail
    exact bodyPost_ret (v := .agg #[.bool g2, .slice p2 n2 c2, .slice p3 n3 c3]) (by simp [results, Tryz.results135, go_sem, hc]) rfl
      (LPost.close ((hg5.block _ (by simp) (by simp)).trans (second w _ _)) (by omega) (grown_trans hb2 hg5) (by rw [E1.out]; exact h2) (by rw [E2.out]; exact h3) hn2 (by omega))
  · have GN := hid e1
    have SF := hid (sg_flag hA (Nat.gcd N.natAbs D))
    obtain ⟨G, hG⟩ : ∃ G, G = Nat.gcd N.natAbs D := ⟨_, rfl⟩
    have HGE := hid hG
    rw [← hG] at HG GN GP SF
    clear hG e1
    have GPH := hid GP
    have HX := hid (decide_eq_false GN.out)
    have HGX := hid (fun (x y : Nat) (hx : x ≤ n) (hy : y ≤ m) => show max x y ≤ 300000 by omega)
    go_enter Tryz.func135, Tryz.ntmps135
    go_wp2_with fail
    refine H1.out.mono ?_
    rintro ee w1 ⟨rfl, hg1⟩
    have hc := gcell hg1
    have hf := gfree hg1
    have hz := hg1.size
    simp at hz
    go_wp2_with fail
    refine (HG.out _ (grown_trans hb2 hg1)).mono ?_
    rintro ee w2 ⟨p1, n1, c1, rfl, h1, hn1, hg2⟩
    replace hg2 := grown_trans hg1 hg2
    clear hc hf hz
    have hc := gcell hg2
    have hf := gfree hg2
    have hz := hg2.size
    simp at hz
    go_wp2_with fail
    refine (isOne_any h1.isN).mono ?_
    rintro ee w3 ⟨rfl, hg3⟩
    rw [HX.out]
    replace h1 := h1.keep hg3
    replace hg3 := grown_trans hg2 hg3
    clear hc hf hz
    have hc := gcell hg3
    have hf := gfree hg3
    have hz := hg3.size
    simp at hz
    go_wp2_with fail
    refine (natDivMod_n (hA.1.keep (grown_trans hb2 hg3)) h1.isN (by omega) (by omega) GPH.out).mono ?_
    rintro ee w4 ⟨p2, n2, c2, p3, n3, c3, rfl, h2, h3, hn2, hn3, hn3', hg4⟩
    clear h3 hn3 hn3'
    replace h1 := h1.keep hg4
    replace hg4 := grown_trans hg3 hg4
    clear hc hf hz
    have hc := gcell hg4
    have hf := gfree hg4
    have hz := hg4.size
    simp at hz
    have hlt : w.heap.size < w4.heap.size := by omega
    have hlt1 : w.heap.size + 1 < w4.heap.size := by omega
    have hbx := (hg4.block w.heap.size (by simp; omega) (by simp)).trans (first_of w _ _)
    have hb1 := (hg4.block (w.heap.size + 1) (by simp) (by simp)).trans (second w _ _)
    have hs := grown_setCell w4 ⟨w.heap.size, 1, none⟩ (.slice p2 n2 c2)
    have kx : w4.cell? ⟨w.heap.size, 1, none⟩ = some (.slice p n c) := by
      have := cell_of_row w4 w.heap.size 1 _ _ _ hbx
      simpa using this
    have kf := frozen_of_row w4 w.heap.size 1 _ _ hbx
    have k5 : (w4.setCell ⟨w.heap.size, 1, none⟩ (.slice p2 n2 c2)).cell? ⟨w.heap.size, 1, none⟩ = some (.slice p2 n2 c2) := by simp [go_sem, kx, kf]
    have hB4 := (hB.keep (grown_trans hb2 hg4)).other2 hbx hs
    have h1s := h1.other2 hbx hs
    have h2s := h2.other2 hbx hs
    have hb1s := (hs.block (w.heap.size + 1) (lt_of_block hb1) (by simp)).trans hb1
    have hgs : w.grownBy (w4.setCell ⟨w.heap.size, 1, none⟩ (.slice p2 n2 c2)) none := grown_new (grown_trans hb2 hg4) hs (fun g e => by cases e; exact Nat.le_refl _)
    go_wp2_with fail
    refine (natDivMod_n hB4 h1s.isN (by omega) (by omega) GPH.out).mono ?_
    rintro ee w5 ⟨p4, n4, c4, p5, n5, c5, rfl, h4, h5, hn4, hn5, hn5', hg5⟩
    clear h5 hn5 hn5'
    replace h2s := h2s.keep hg5
    have k6 := hg5.cell k5 (by simp)
    have hc5 := gcell hg5
    have hf5 := gfree hg5
    have hz5 := hg5.size
    simp at hz5
    go_wp2_with fail
    refine (intNorm_any (IsZ.mk g h2s.isN) (by omega)).mono ?_
    rintro ee w6 ⟨g6, p6, n6, c6, rfl, h6, hn6, hg6⟩
    replace h4 := h4.keep hg6
    replace hg6 := grown_trans hg5 hg6
    clear hc5 hf5 hz5
    clear k6
    have hbF := (hg6.block _ (lt_of_block hb1s) (by simp)).trans hb1s
    obtain ⟨l0, l1, l2, m0, m1, m2⟩ := ratbox_facts hbF
    go_wp2_with fail
    exact bodyPost_ret (v := .agg #[.bool g6, .slice p6 n6 c6, .slice p4 n4 c4]) (by simp [results, Tryz.results135, go_sem, l0, l1, l2, m0, m1, m2]) rfl
      (LPost.close hbF (by omega) (grown_trans hgs hg6) (by unfold rn; rw [← HGE.out, ← SF.out]; exact h6) (by unfold rd; rw [← HGE.out]; exact h4) (by omega) (by omega))
end Go.Proofs.YtgbfjneoieadmaaGreatDoor

set_option linter.unusedVariables false
set_option linter.unusedSimpArgs false
namespace Go.Proofs.YtgbfjneoieadmaaGreatDoor
open Go.RowKit Nm

/-- the numerator over a positive denominator -/
def qn (N M : Int) : Int := if M < 0 then -N else N
theorem qn_sg {w : World} {g h : Bool} {p q : Option Addr} {n c m d : Nat} {N M : Int} (hA : IsZ w g p n c N) (hB : IsZ w h q m d M) (h0 : M ≠ 0) : sg (g != h) N.natAbs = qn N M := by
  have e1 := hA.2
  have e2 := hB.2
  unfold qn
  cases h
  · rw [sg_false] at e2
    rw [if_neg (by omega)]
    simpa using e1.symm
  · rw [sg_true] at e2
    rw [if_pos (by omega)]
    have : (g != true) = !g := by cases g <;> rfl
    rw [this, sg_not, ← e1]

set_option maxHeartbeats 4000000 in
theorem quotient_any {w : World} (T : Tb w) {g h : Bool} {p q : Option Addr} {n c m d : Nat} {N M : Int} (hA : IsZ w g p n c N) (hB : IsZ w h q m d M) (h0 : M ≠ 0) (hn : n ≤ 300000) (hm : m ≤ 300000) :
    Calls Tryz.prog 180 #[.agg #[.bool g, .slice p n c], .agg #[.bool h, .slice q m d]] w (LPost w (rn (qn N M) M.natAbs) (rd (qn N M) M.natAbs) n (m + 1)) := by
  have HL := hid (fun W (hW : w.grownBy W none) => lowest_any (T.keep hW) (g := (g != h)) (N := sg (g != h) N.natAbs) (IsZ.mk _ (hA.1.keep hW)) (hB.1.keep hW) (by omega) hn hm)
  rw [qn_sg hA hB h0] at HL
  generalize rn (qn N M) M.natAbs = X at *
  generalize rd (qn N M) M.natAbs = Y at *
  unfold LPost at HL
  obtain ⟨f, hf⟩ : ∃ f, f = (g != h) := ⟨_, rfl⟩
  rw [← hf] at HL
  have hws := grown_trans (grown_trans (World.grownBy_alloc w (.cells #[.bool f, .slice p n c] 25) none) (World.grownBy_alloc _ (.cells #[.bool h, .slice q m d] 25) none)) (World.grownBy_alloc _ (.cells #[.bool false, .slice none 0 0, .slice none 0 0] 27) none)
  clear hA hB T h0
  cases g <;> cases h
  all_goals
    simp at hf
    subst hf
    go_enter Tryz.func180, Tryz.ntmps180
    go_wp2_with fail
    refine (HL.out _ hws).mono ?_
    rintro ee w1 ⟨g1, p1, n1, c1, q1, m1, d1, rfl, h1, h2, hn1, hm1, hg⟩
    have hc := gcell hg
    have hf := gfree hg
    have hz := hg.size
    simp at hz
    go_wp2_with fail
    exact bodyPost_ret (v := .agg #[.bool g1, .slice p1 n1 c1, .slice q1 m1 d1]) (by simp [results, Tryz.results180, go_sem, hc]) rfl
      (LPost.close ((hg.block _ (by simp) (by simp)).trans (third w _ _ _)) (by omega) (grown_trans hws hg) h1 h2 hn1 hm1)

theorem cmpI_zero_iff (M : Int) : cmpI M 0 = 0 ↔ M = 0 := by
  unfold cmpI
  split
  · omega
  · split <;> omega

/-- a Rat and no error -/
def MkPost (w : World) (X : Int) (Y : Nat) (n m : Nat) (e : Ending) (w' : World) : Prop :=
  ∃ (g : Bool) (p : Option Addr) (n' c : Nat) (q : Option Addr) (m' d : Nat), e = .returned (.tuple #[.agg #[.bool g, .slice p n' c, .slice q m' d], .int .i64 0]) ∧ IsI w' g p n' c X ∧ IsC w' q m' d Y ∧ n' ≤ n ∧ m' ≤ m ∧ w.grownBy w' none
theorem MkPost.of {w w' : World} {X : Int} {Y n m : Nat} {g : Bool} {p q : Option Addr} {n' c m' d : Nat} (h : LPost w X Y n m (.returned (.agg #[.bool g, .slice p n' c, .slice q m' d])) w') :
    MkPost w X Y n m (.returned (.tuple #[.agg #[.bool g, .slice p n' c, .slice q m' d], .int .i64 0])) w' := by
  obtain ⟨g1, p1, n1, c1, q1, m1, d1, e, h⟩ := h
  simp at e
  obtain ⟨rfl, ⟨rfl, rfl, rfl⟩, rfl, rfl, rfl⟩ := e
  exact ⟨g, p, n', c, q, m', d, rfl, h⟩

set_option maxHeartbeats 4000000 in
theorem ratMake_any {w : World} (T : Tb w) {g h : Bool} {p q : Option Addr} {n c m d : Nat} {N M : Int} (hA : IsZ w g p n c N) (hB : IsZ w h q m d M) (h0 : M ≠ 0) (hn : n ≤ 300000) (hm : m ≤ 300000) :
    Calls Tryz.prog 162 #[.agg #[.bool g, .slice p n c], .agg #[.bool h, .slice q m d]] w (MkPost w (rn (qn N M) M.natAbs) (rd (qn N M) M.natAbs) n (m + 1)) := by
  have hb3 := grown_trans (grown_trans (World.grownBy_alloc w (.cells #[.bool g, .slice p n c] 25) none) (World.grownBy_alloc _ (.cells #[.bool h, .slice q m d] 25) none)) (World.grownBy_alloc _ (.cells #[.bool false, .slice none 0 0, .slice none 0 0] 27) none)
  have HS := hid (intSign_any (hB.keep hb3) (by omega))
  have HQ := hid (fun W (hW : w.grownBy W none) => quotient_any (T.keep hW) (hA.keep hW) (hB.keep hW) h0 hn hm)
  have t0 : ((cmpI M 0 == 0) = false) := beq_eq_false_iff_ne.2 (by rw [Ne, cmpI_zero_iff]; exact h0)
  generalize rn (qn N M) M.natAbs = X at *
  generalize rd (qn N M) M.natAbs = Y at *
  generalize cmpI M 0 = s at *
  unfold LPost at HQ
  clear h0
  go_enter Tryz.func162, Tryz.ntmps162
  go_wp2_with fail
  refine HS.out.mono ?_
  rintro ee w0 ⟨rfl, hg0⟩
  have hc := gcell hg0
  have hf := gfree hg0
  have hz := hg0.size
  simp at hz
  go_wp2_with fail
  refine (HQ.out _ (grown_trans hb3 hg0)).mono ?_
  rintro ee w1 ⟨g1, p1, n1, c1, q1, m1, d1, rfl, h1, h2, hn1, hm1, hg⟩
  replace hg := grown_trans hg0 hg
  clear hc hf hz
  have hc := gcell hg
  have hf := gfree hg
  have hz := hg.size
  simp at hz
  go_wp2_with fail
  exact bodyPost_ret (v := .tuple #[.agg #[.bool g1, .slice p1 n1 c1, .slice q1 m1 d1], .int .i64 0]) (by simp [results, Tryz.results162, go_sem, hc]) rfl
    (MkPost.of (LPost.close ((hg.block _ (by simp) (by simp)).trans (third w _ _ _)) (by omega) (grown_trans hb3 hg) h1 h2 hn1 hm1))

set_option maxHeartbeats 4000000 in
theorem ratMake_e {w : World} {g h : Bool} {p q : Option Addr} {n c m d : Nat} {N : Int} (hA : IsZ w g p n c N) (hB : IsZ w h q m d 0) (hn : n ≤ 300000) (hm : m ≤ 300000) :
    Calls Tryz.prog 162 #[.agg #[.bool g, .slice p n c], .agg #[.bool h, .slice q m d]] w fun e w' => e = .returned (.tuple #[.agg #[.bool false, .slice none 0 0, .slice none 0 0], .int .i64 3]) ∧ w.grownBy w' none := by
  have hb3 := grown_trans (grown_trans (World.grownBy_alloc w (.cells #[.bool g, .slice p n c] 25) none) (World.grownBy_alloc _ (.cells #[.bool h, .slice q m d] 25) none)) (World.grownBy_alloc _ (.cells #[.bool false, .slice none 0 0, .slice none 0 0] 27) none)
  have HS := intSign_any (hB.keep hb3) (by omega)
  rw [show cmpI 0 0 = 0 by decide] at HS
  replace HS := hid HS
  go_enter Tryz.func162, Tryz.ntmps162
  go_wp2_with fail
  refine HS.out.mono ?_
  rintro ee w0 ⟨rfl, hg0⟩
  have hc := gcell hg0
  have hf := gfree hg0
  have hz := hg0.size
  simp at hz
  have hs := set3_grown w0 (w.heap.size + 1 + 1) (.bool false) (.slice none 0 0) (.slice none 0 0)
  go_wp2_with fail
  exact bodyPost_ret (v := .tuple #[.agg #[.bool false, .slice none 0 0, .slice none 0 0], .int .i64 3]) (by simp [results, Tryz.results162, go_sem, hc]) rfl
    ⟨rfl, grown_new (grown_trans hb3 hg0) hs (fun g e => by cases e; omega)⟩
end Go.Proofs.YtgbfjneoieadmaaGreatDoor

set_option linter.unusedVariables false
set_option linter.unusedSimpArgs false
namespace Go.Proofs.YtgbfjneoieadmaaGreatDoor
open Go.RowKit Nm

theorem rn_q {N : Int} {D : Nat} (h : 0 < D) : rn N D = (mkRat N D).num := by
  rw [Rat.num_mkRat, if_neg (by omega), Nat.gcd_comm]
  unfold rn
  by_cases h0 : N < 0
  · rw [decide_eq_true h0]
    show -((N.natAbs / Nat.gcd N.natAbs D : Nat) : Int) = _
    have e : N = -(N.natAbs : Int) := by omega
    have hd : ((Nat.gcd N.natAbs D : Nat) : Int) ∣ (N.natAbs : Int) := Int.natCast_dvd_natCast.2 (Nat.gcd_dvd_left _ _)
    rw [Int.natCast_ediv, ← Int.neg_ediv_of_dvd hd, ← e]
  · rw [decide_eq_false h0]
    show ((N.natAbs / Nat.gcd N.natAbs D : Nat) : Int) = _
    have e : N = (N.natAbs : Int) := by omega
    rw [Int.natCast_ediv, ← e]
theorem rd_q {N : Int} {D : Nat} (h : 0 < D) : rd N D = (mkRat N D).den := by
  rw [Rat.den_mkRat, if_neg (by omega), Nat.gcd_comm]
  rfl
theorem pq (N : Int) (D : Nat) : mkRat (pn N D) (pd D) = mkRat N D := by
  unfold pn pd
  split
  · next h => subst h; simp
  · rfl
theorem mk_lt {A B : Int} {D E : Nat} (hD : 0 < D) (hE : 0 < E) : mkRat A D < mkRat B E ↔ A * E < B * D := by
  have hD' : (0 : Rat) < (D : Rat) := Rat.natCast_pos.2 hD
  have hE' : (0 : Rat) < (E : Rat) := Rat.natCast_pos.2 hE
  have e1 : (A : Rat) = mkRat A D * D := by rw [Rat.mkRat_eq_div]; grind
  have e2 : (B : Rat) = mkRat B E * E := by rw [Rat.mkRat_eq_div]; grind
  rw [← Rat.intCast_lt_intCast]
  simp only [Rat.intCast_mul, Rat.intCast_natCast]
  rw [e1, e2]
  generalize mkRat A D = x
  generalize mkRat B E = y
  have : x * D * E = x * (D * E) := by grind
  rw [this]
  have : y * E * D = y * (D * E) := by grind
  rw [this]
  exact (Rat.mul_lt_mul_right (Rat.mul_pos hD' hE')).symm
theorem qn_q {N M : Int} (h0 : M ≠ 0) : mkRat (qn N M) M.natAbs = (N : Rat) / (M : Rat) := by
  rw [Rat.mkRat_eq_div]
  unfold qn
  by_cases h : M < 0
  · rw [if_pos h]
    have e : M = -(M.natAbs : Int) := by omega
    generalize hk : M.natAbs = k at *
    subst e
    have : ((-(k : Int) : Int) : Rat) = -(k : Rat) := by rw [Rat.intCast_neg, Rat.intCast_natCast]
    rw [this, Rat.intCast_neg]
    grind
  · rw [if_neg h]
    have e : M = (M.natAbs : Int) := by omega
    generalize hk : M.natAbs = k at *
    subst e
    rw [Rat.intCast_natCast]
theorem mk_div {A B : Int} {D E : Nat} (hD : 0 < D) (hE : 0 < E) (hB : B ≠ 0) : ((A * E : Int) : Rat) / ((B * D : Int) : Rat) = mkRat A D / mkRat B E := by
  have hD' : (D : Rat) ≠ 0 := fun h => by have := Rat.natCast_pos.2 hD; grind
  have hE' : (E : Rat) ≠ 0 := fun h => by have := Rat.natCast_pos.2 hE; grind
  have hB' : (B : Rat) ≠ 0 := fun h => hB (by exact_mod_cast h)
  rw [Rat.mkRat_eq_div, Rat.mkRat_eq_div]
  simp only [Rat.intCast_mul, Rat.intCast_natCast]
  grind
/-- less, equal or greater -/
def cmpR (v u : Rat) : Int := if v < u then -1 else if v = u then 0 else 1
theorem cmp_q {A B : Int} {D E : Nat} (hD : 0 < D) (hE : 0 < E) : cmpI (A * E) (B * D) = cmpR (mkRat A D) (mkRat B E) := by
  unfold cmpI cmpR
  have h1 := mk_lt (A := A) (B := B) hD hE
  have h2 := Rat.mkRat_eq_iff (n₁ := A) (n₂ := B) (d₁ := D) (d₂ := E) (by omega) (by omega)
  simp only [h1, h2]
  generalize A * (E : Int) = x
  generalize B * (D : Int) = y
  repeat' split
  all_goals first | rfl | (exfalso; omega)
theorem sign_q {A : Int} {D : Nat} (hD : 0 < D) : cmpI A 0 = cmpR (mkRat A D) 0 := by
  have := cmp_q (A := A) (B := 0) (E := 1) hD (by omega)
  simpa using this

theorem cmpR_bound (v u : Rat) : cmpR v u = -1 ∨ cmpR v u = 0 ∨ cmpR v u = 1 := by unfold cmpR; split <;> (try split) <;> simp
theorem cmpR_neg (v u : Rat) : cmpR u v = -cmpR v u := by
  unfold cmpR
  by_cases h : v < u
  · have : ¬ u < v := by grind
    have : ¬ u = v := by grind
    simp [*]
  · by_cases h2 : v = u
    · subst h2; simp [h]
    · have : u < v := by grind
      simp [*]
theorem cmpR_congr {v u v' u' : Rat} (h1 : v < u ↔ v' < u') (h2 : v = u ↔ v' = u') : cmpR v u = cmpR v' u' := by unfold cmpR; simp only [h1, h2]
theorem cmpR_sub (v u : Rat) : cmpR (v - u) 0 = cmpR v u := cmpR_congr (by grind) (by grind)
theorem cmpR_add (v u t : Rat) : cmpR (v + t) (u + t) = cmpR v u := cmpR_congr (by grind) (by grind)
theorem cmpR_lt {v u : Rat} (h : v < u) : cmpR v u = -1 := by unfold cmpR; rw [if_pos h]
theorem cmpR_gt {v u : Rat} (h : u < v) : cmpR v u = 1 := by rw [cmpR_neg u v, cmpR_lt h]; rfl
theorem cmpR_eq (v : Rat) : cmpR v v = 0 := by unfold cmpR; rw [if_neg (by grind), if_pos rfl]
theorem cmpR_zero {v u : Rat} : cmpR v u = 0 ↔ v = u := by
  constructor
  · intro h
    unfold cmpR at h
    split at h
    · omega
    · split at h
      · assumption
      · omega
  · rintro rfl; exact cmpR_eq _
theorem cmpR_mul (v u t : Rat) : cmpR (v * t) (u * t) = cmpR v u * cmpR t 0 := by
  have hc : t < 0 ∨ t = 0 ∨ 0 < t := by grind
  have hd : v < u ∨ v = u ∨ u < v := by grind
  rcases hc with h | h | h
  · rw [cmpR_lt h]
    rcases hd with k | k | k
    · rw [cmpR_lt k]
      exact cmpR_gt (by have := Rat.mul_lt_mul_of_pos_right k (show 0 < -t by grind); grind)
    · subst k; rw [cmpR_eq, cmpR_eq]; rfl
    · rw [cmpR_gt k]
      exact cmpR_lt (by have := Rat.mul_lt_mul_of_pos_right k (show 0 < -t by grind); grind)
  · subst h; simp [cmpR_eq]
  · rw [cmpR_gt h]
    rcases hd with k | k | k
    · rw [cmpR_lt k]
      exact cmpR_lt (by have := Rat.mul_lt_mul_of_pos_right k h; grind)
    · subst k; rw [cmpR_eq, cmpR_eq]; rfl
    · rw [cmpR_gt k]
      exact cmpR_gt (by have := Rat.mul_lt_mul_of_pos_right k h; grind)
theorem fl_le (v : Rat) : ((v.num / (v.den : Int) : Int) : Rat) ≤ v := by
  have := Rat.floor_le v
  rwa [Rat.floor_def] at this
theorem fl_lt (v : Rat) : v < ((v.num / (v.den : Int) : Int) : Rat) + 1 := by
  have := Rat.lt_floor (x := v)
  rw [Rat.floor_def] at this
  grind

/-- the struct stands for the rational number v, perhaps not in its valid form -/
def IsQ (w : World) (g : Bool) (p : Option Addr) (n c : Nat) (q : Option Addr) (m d : Nat) (v : Rat) : Prop := ∃ (N : Int) (D : Nat), IsZ w g p n c N ∧ IsN w q m d D ∧ v = mkRat N D
theorem IsQ.keep {w w' : World} {g : Bool} {p q : Option Addr} {n c m d : Nat} {v : Rat} (h : IsQ w g p n c q m d v) (hg : w.grownBy w' none) : IsQ w' g p n c q m d v :=
  let ⟨N, D, h1, h2, h3⟩ := h; ⟨N, D, h1.keep hg, h2.keep hg, h3⟩
/-- it is the valid Rat of v -/
def IsV (w : World) (g : Bool) (p : Option Addr) (n c : Nat) (q : Option Addr) (m d : Nat) (v : Rat) : Prop := IsI w g p n c v.num ∧ IsC w q m d v.den
theorem IsV.keep {w w' : World} {g : Bool} {p q : Option Addr} {n c m d : Nat} {v : Rat} (h : IsV w g p n c q m d v) (hg : w.grownBy w' none) : IsV w' g p n c q m d v := ⟨h.1.keep hg, h.2.keep hg⟩
theorem IsV.q {w : World} {g : Bool} {p q : Option Addr} {n c m d : Nat} {v : Rat} (h : IsV w g p n c q m d v) : IsQ w g p n c q m d v := ⟨_, _, h.1.z, h.2.isN, (Rat.mkRat_self v).symm⟩
theorem IsV.congr {w : World} {g : Bool} {p q : Option Addr} {n c m d : Nat} {v u : Rat} (h : IsV w g p n c q m d v) (e : v = u) : IsV w g p n c q m d u := e ▸ h

/-- a valid Rat of v is returned -/
def VPost (w : World) (v : Rat) (B : Nat) (e : Ending) (w' : World) : Prop :=
  ∃ (g : Bool) (p : Option Addr) (n c : Nat) (q : Option Addr) (m d : Nat), e = .returned (.agg #[.bool g, .slice p n c, .slice q m d]) ∧ IsV w' g p n c q m d v ∧ n ≤ B ∧ m ≤ B ∧ w.grownBy w' none
theorem LPost.v {w w' : World} {X : Int} {Y n m B : Nat} {e : Ending} {v : Rat} (h : LPost w X Y n m e w') (e1 : X = v.num) (e2 : Y = v.den) (hn : n ≤ B) (hm : m ≤ B) : VPost w v B e w' := by
  obtain ⟨g, p, n', c, q, m', d, he, h1, h2, h3, h4, h5⟩ := h
  subst e1 e2
  exact ⟨g, p, n', c, q, m', d, he, ⟨h1, h2⟩, by omega, by omega, h5⟩

theorem lowest_v {w : World} (T : Tb w) {g : Bool} {p q : Option Addr} {n c m d D B : Nat} {N : Int} (hA : IsZ w g p n c N) (hB : IsN w q m d D) (hD : 0 < D) (hn : n ≤ B) (hm : m + 1 ≤ B) (hx : B ≤ 300000) :
    Calls Tryz.prog 135 #[.agg #[.bool g, .slice p n c], .slice q m d] w (VPost w (mkRat N D) B) :=
  (lowest_any T hA hB hD (by omega) (by omega)).mono fun _ _ h => h.v (rn_q hD) (rd_q hD) hn hm
end Go.Proofs.YtgbfjneoieadmaaGreatDoor

set_option linter.unusedVariables false
set_option linter.unusedSimpArgs false
namespace Go.Proofs.YtgbfjneoieadmaaGreatDoor
open Go.RowKit Nm

theorem intbox_facts {w : World} {G : Nat} {x : Bool} {y : Option Addr} {a b : Nat} {T : TypeId} (hb : w.heap[G]? = some (.cells #[.bool x, .slice y a b] T (0, 0))) :
    w.cell? ⟨G, 0, none⟩ = some (.bool x) ∧ w.cell? ⟨G, 1, none⟩ = some (.slice y a b) ∧ w.frozen? ⟨G, 0, none⟩ = false ∧ w.frozen? ⟨G, 1, none⟩ = false := by
  have k0 := cell_of_row w G 0 _ _ _ hb
  have k1 := cell_of_row w G 1 _ _ _ hb
  simp at k0 k1
  exact ⟨k0, k1, frozen_of_row w G 0 _ _ hb, frozen_of_row w G 1 _ _ hb⟩

theorem VPost.close {w w5 : World} {G : Nat} {x : Bool} {y z : Option Addr} {a b e f : Nat} {T : TypeId} {g : Bool} {p q : Option Addr} {n c m d B : Nat} {v : Rat}
    (hW : w5.heap[G]? = some (.cells #[.bool x, .slice y a b, .slice z e f] T (0, 0))) (hG : w.heap.size ≤ G) (hg : w.grownBy w5 none) (h1 : IsV w5 g p n c q m d v) (hn : n ≤ B) (hm : m ≤ B) :
    VPost w v B (.returned (.agg #[.bool g, .slice p n c, .slice q m d])) (((w5.setCell ⟨G, 0, none⟩ (.bool g)).setCell ⟨G, 1, none⟩ (.slice p n c)).setCell ⟨G, 2, none⟩ (.slice q m d)) := by
  have hs := set3_grown w5 G (.bool g) (.slice p n c) (.slice q m d)
  exact ⟨g, p, n, c, q, m, d, rfl, ⟨⟨IsC.other3 h1.1.1 hW hs, h1.1.2⟩, h1.2.other3 hW hs⟩, hn, hm, grown_new hg hs (fun g e => by cases e; exact hG)⟩

theorem IsQ.opp {w : World} {g : Bool} {p q : Option Addr} {n c m d : Nat} {v : Rat} (h : IsQ w g p n c q m d v) : IsQ w (!g) p n c q m d (-v) := by
  obtain ⟨N, D, h1, h2, rfl⟩ := h
  refine ⟨-N, D, ⟨?_, ?_⟩, h2, Rat.neg_mkRat N D⟩
  · rw [Int.natAbs_neg]; exact h1.1
  · have := h1.2
    rw [Int.natAbs_neg, sg_not]
    omega

set_option maxHeartbeats 1000000 in
theorem opposite_any {w : World} (g : Bool) (p q : Option Addr) (n c m d : Nat) :
    Calls Tryz.prog 134 #[.agg #[.bool g, .slice p n c, .slice q m d]] w fun e w' => e = .returned (.agg #[.bool (!g), .slice p n c, .slice q m d]) ∧ w.grownBy w' none := by
  have hb2 := grown_trans (World.grownBy_alloc w (.cells #[.bool g, .slice p n c, .slice q m d] 27) none) (World.grownBy_alloc _ (.cells #[.bool false, .slice none 0 0, .slice none 0 0] 27) none)
  go_enter Tryz.func134, Tryz.ntmps134
  go_wp2
  exact bodyPost_ret (v := .agg #[.bool (!g), .slice p n c, .slice q m d]) (by simp [results, Tryz.results134, go_sem]) rfl ⟨rfl, grown_trans (World.grownBy_alloc w _ none) (World.grownBy_alloc _ _ none)⟩

set_option maxHeartbeats 1000000 in
theorem denominator_any {w : World} {p q : Option Addr} {n c m d N M : Nat} (hA : IsN w p n c N) (hB : IsN w q m d M) (hn : n ≤ 400000) (hm : m ≤ 400000) :
    Calls Tryz.prog 137 #[.slice p n c, .slice q m d] w fun e w' => ∃ p' n' c', e = .returned (.slice p' n' c') ∧ IsN w' p' n' c' (N * M) ∧ n' ≤ n + m ∧ w.grownBy w' none := by
  have H1 := isOne_any hA
  have H2 := hid (fun W (hW : w.grownBy W none) => isOne_any (hB.keep hW))
  by_cases e : N = 1
  · rw [decide_eq_true e] at H1
    replace H1 := hid H1
    subst e
    go_enter Tryz.func137, Tryz.ntmps137
    go_wp2_with fail
    refine H1.out.mono ?_
    rintro ee w1 ⟨rfl, hg1⟩
    go_wp2_with fail
    go_ret
    exact ⟨q, m, d, rfl, by rw [Nat.one_mul]; exact hB.keep hg1, by omega, hg1⟩
  rw [decide_eq_false e] at H1
  replace H1 := hid H1
  by_cases e2 : M = 1
  · rw [decide_eq_true e2] at H2
    subst e2
    go_enter Tryz.func137, Tryz.ntmps137
    go_wp2_with fail
    refine H1.out.mono ?_
    rintro ee w1 ⟨rfl, hg1⟩
    go_wp2_with fail
    refine (H2.out _ hg1).mono ?_
    rintro ee w2 ⟨rfl, hg2⟩
    go_wp2_with fail
    go_ret
    exact ⟨p, n, c, rfl, by rw [Nat.mul_one]; exact hA.keep (grown_trans hg1 hg2), by omega, grown_trans hg1 hg2⟩
  · rw [decide_eq_false e2] at H2
    clear e e2
    go_enter Tryz.func137, Tryz.ntmps137
    go_wp2_with fail
    refine H1.out.mono ?_
    rintro ee w1 ⟨rfl, hg1⟩
    go_wp2_with fail
    refine (H2.out _ hg1).mono ?_
    rintro ee w2 ⟨rfl, hg2⟩
    replace hg1 := grown_trans hg1 hg2
    go_wp2_with fail
    refine (natMul_n (hA.keep hg1) (hB.keep hg1) hn hm).mono ?_
    rintro ee w3 ⟨p3, n3, c3, rfl, h3, hn3, hg3⟩
    go_wp2_with fail
    go_ret
    exact ⟨p3, n3, c3, rfl, h3.isN, by omega, grown_trans hg1 hg3⟩

set_option maxRecDepth 20000 in
set_option maxHeartbeats 4000000 in
theorem ratMul_v (S : Nat) {w : World} (T : Tb w) {g1 g2 : Bool} {p1 q1 p2 q2 : Option Addr} {n1 c1 m1 d1 n2 c2 m2 d2 : Nat} {v u : Rat} (hA : IsQ w g1 p1 n1 c1 q1 m1 d1 v) (hB : IsQ w g2 p2 n2 c2 q2 m2 d2 u) (hn1 : n1 ≤ S) (hm1 : m1 ≤ S) (hn2 : n2 ≤ S) (hm2 : m2 ≤ S) (hS : S ≤ 60000) :
    Calls Tryz.prog 100 #[.agg #[.bool g1, .slice p1 n1 c1, .slice q1 m1 d1], .agg #[.bool g2, .slice p2 n2 c2, .slice q2 m2 d2]] w (VPost w (v * u) (4 * S + 20)) := by
  obtain ⟨N, D, hA, hE, rfl⟩ := hA
  obtain ⟨M, E, hB, hF, rfl⟩ := hB
  have HT := hid T
  have HD := hid (Nat.mul_pos (pd_pos D) (pd_pos E))
  have HV := hid (show mkRat (pn N D * pn M E) (pd D * pd E) = mkRat N D * mkRat M E by rw [← Rat.mkRat_mul_mkRat, pq, pq])
  clear T
  have hW := (grown_trans (grown_trans (World.grownBy_alloc w (.cells #[.bool g1, .slice p1 n1 c1, .slice q1 m1 d1] 27) none) (World.grownBy_alloc _ (.cells #[.bool g2, .slice p2 n2 c2, .slice q2 m2 d2] 27) none)) (World.grownBy_alloc _ (.cells #[.bool false, .slice none 0 0, .slice none 0 0] 27) none))
  have bx0 : (((w.alloc (.cells #[.bool g1, .slice p1 n1 c1, .slice q1 m1 d1] 27)).alloc (.cells #[.bool g2, .slice p2 n2 c2, .slice q2 m2 d2] 27)).alloc (.cells #[.bool false, .slice none 0 0, .slice none 0 0] 27)).heap[w.heap.size]? = some (.cells #[.bool g1, .slice p1 n1 c1, .slice q1 m1 d1] 27 (0, 0)) := by
    have h0 := heap_alloc_new w (.cells #[.bool g1, .slice p1 n1 c1, .slice q1 m1 d1] 27)
    have h1 := (grown_trans (World.grownBy_alloc (w.alloc (.cells #[.bool g1, .slice p1 n1 c1, .slice q1 m1 d1] 27)) (.cells #[.bool g2, .slice p2 n2 c2, .slice q2 m2 d2] 27) none) (World.grownBy_alloc _ (.cells #[.bool false, .slice none 0 0, .slice none 0 0] 27) none)).block _ (lt_of_block h0) (by simp)
    have h2 := h1.trans h0
    simpa using h2
  obtain ⟨x0, x1, x2, _, _, _⟩ := ratbox_facts bx0
  clear bx0
  have bx1 : (((w.alloc (.cells #[.bool g1, .slice p1 n1 c1, .slice q1 m1 d1] 27)).alloc (.cells #[.bool g2, .slice p2 n2 c2, .slice q2 m2 d2] 27)).alloc (.cells #[.bool false, .slice none 0 0, .slice none 0 0] 27)).heap[w.heap.size + 1]? = some (.cells #[.bool g2, .slice p2 n2 c2, .slice q2 m2 d2] 27 (0, 0)) := by
    have h0 := heap_alloc_new (w.alloc (.cells #[.bool g1, .slice p1 n1 c1, .slice q1 m1 d1] 27)) (.cells #[.bool g2, .slice p2 n2 c2, .slice q2 m2 d2] 27)
    have h1 := (World.grownBy_alloc ((w.alloc (.cells #[.bool g1, .slice p1 n1 c1, .slice q1 m1 d1] 27)).alloc (.cells #[.bool g2, .slice p2 n2 c2, .slice q2 m2 d2] 27)) (.cells #[.bool false, .slice none 0 0, .slice none 0 0] 27) none).block _ (lt_of_block h0) (by simp)
    have h2 := h1.trans h0
    simpa using h2
  obtain ⟨y0, y1, y2, _, _, _⟩ := ratbox_facts bx1
  clear bx1
  have bx2 : (((w.alloc (.cells #[.bool g1, .slice p1 n1 c1, .slice q1 m1 d1] 27)).alloc (.cells #[.bool g2, .slice p2 n2 c2, .slice q2 m2 d2] 27)).alloc (.cells #[.bool false, .slice none 0 0, .slice none 0 0] 27)).heap[w.heap.size + 1 + 1]? = some (.cells #[.bool false, .slice none 0 0, .slice none 0 0] 27 (0, 0)) := by
    have := heap_alloc_new ((w.alloc (.cells #[.bool g1, .slice p1 n1 c1, .slice q1 m1 d1] 27)).alloc (.cells #[.bool g2, .slice p2 n2 c2, .slice q2 m2 d2] 27)) (.cells #[.bool false, .slice none 0 0, .slice none 0 0] 27)
    simpa using this
  replace hA := hA.keep hW; replace hE := hE.keep hW; replace hB := hB.keep hW; replace hF := hF.keep hW
  go_enter Tryz.func100, Tryz.ntmps100
  go_wp2_with fail
  generalize (((w.alloc (.cells #[.bool g1, .slice p1 n1 c1, .slice q1 m1 d1] 27)).alloc (.cells #[.bool g2, .slice p2 n2 c2, .slice q2 m2 d2] 27)).alloc (.cells #[.bool false, .slice none 0 0, .slice none 0 0] 27)) = w0 at *
  refine (parts_any hA hE (by omega) (by omega)).mono ?_
  rintro ee v1 ⟨g3, p3, n3, c3, q3, m3, d3, rfl, hN, hD, hn3, hm3, hg⟩
  replace hA := hA.keep hg; replace hE := hE.keep hg; replace hB := hB.keep hg; replace hF := hF.keep hg
  replace x0 := hg.cell x0 (by simp); replace x1 := hg.cell x1 (by simp); replace x2 := hg.cell x2 (by simp); replace y0 := hg.cell y0 (by simp)
  replace y1 := hg.cell y1 (by simp); replace y2 := hg.cell y2 (by simp); replace bx2 := (hg.block _ (lt_of_block bx2) (by simp)).trans bx2; replace hW := grown_trans hW hg
  clear hg
  have hg := World.grownBy_alloc v1 (.cells #[.bool g3, .slice p3 n3 c3] 25) none
  have hb := heap_alloc_new v1 (.cells #[.bool g3, .slice p3 n3 c3] 25)
  replace hA := hA.keep hg; replace hE := hE.keep hg; replace hB := hB.keep hg; replace hF := hF.keep hg
  replace hN := hN.keep hg; replace hD := hD.keep hg; replace x0 := hg.cell x0 (by simp); replace x1 := hg.cell x1 (by simp)
  replace x2 := hg.cell x2 (by simp); replace y0 := hg.cell y0 (by simp); replace y1 := hg.cell y1 (by simp); replace y2 := hg.cell y2 (by simp)
  replace bx2 := (hg.block _ (lt_of_block bx2) (by simp)).trans bx2; replace hW := grown_trans hW hg
  obtain ⟨z0, z1, _, _⟩ := intbox_facts hb
  clear hg hb
  go_wp2_with fail
  generalize v1.alloc (.cells #[.bool g3, .slice p3 n3 c3] 25) = u1 at *
  generalize v1.heap.size = K1 at *
  refine (parts_any hB hF (by omega) (by omega)).mono ?_
  rintro ee v2 ⟨g4, p4, n4, c4, q4, m4, d4, rfl, kN, kD, hn4, hm4, hg⟩
  replace hA := hA.keep hg; replace hE := hE.keep hg; replace hB := hB.keep hg; replace hF := hF.keep hg
  replace hN := hN.keep hg; replace hD := hD.keep hg; replace x0 := hg.cell x0 (by simp); replace x1 := hg.cell x1 (by simp)
  replace x2 := hg.cell x2 (by simp); replace y0 := hg.cell y0 (by simp); replace y1 := hg.cell y1 (by simp); replace y2 := hg.cell y2 (by simp)
  replace z0 := hg.cell z0 (by simp); replace z1 := hg.cell z1 (by simp); replace bx2 := (hg.block _ (lt_of_block bx2) (by simp)).trans bx2; replace hW := grown_trans hW hg
  clear hg
  have hg := World.grownBy_alloc v2 (.cells #[.bool g4, .slice p4 n4 c4] 25) none
  have hb := heap_alloc_new v2 (.cells #[.bool g4, .slice p4 n4 c4] 25)
  replace hA := hA.keep hg; replace hE := hE.keep hg; replace hB := hB.keep hg; replace hF := hF.keep hg
  replace hN := hN.keep hg; replace hD := hD.keep hg; replace kN := kN.keep hg; replace kD := kD.keep hg
  replace x0 := hg.cell x0 (by simp); replace x1 := hg.cell x1 (by simp); replace x2 := hg.cell x2 (by simp); replace y0 := hg.cell y0 (by simp)
  replace y1 := hg.cell y1 (by simp); replace y2 := hg.cell y2 (by simp); replace z0 := hg.cell z0 (by simp); replace z1 := hg.cell z1 (by simp)
  replace bx2 := (hg.block _ (lt_of_block bx2) (by simp)).trans bx2; replace hW := grown_trans hW hg
  obtain ⟨t0, t1, _, _⟩ := intbox_facts hb
  clear hg hb
  go_wp2_with fail
  generalize v2.alloc (.cells #[.bool g4, .slice p4 n4 c4] 25) = u2 at *
  generalize v2.heap.size = K2 at *
  refine (intMul_any hN kN (by omega) (by omega)).mono ?_
  rintro ee v3 ⟨g5, p5, n5, c5, rfl, hX, hn5, hg⟩
  replace hA := hA.keep hg; replace hE := hE.keep hg; replace hB := hB.keep hg; replace hF := hF.keep hg
  replace hN := hN.keep hg; replace hD := hD.keep hg; replace kN := kN.keep hg; replace kD := kD.keep hg
  replace x0 := hg.cell x0 (by simp); replace x1 := hg.cell x1 (by simp); replace x2 := hg.cell x2 (by simp); replace y0 := hg.cell y0 (by simp)
  replace y1 := hg.cell y1 (by simp); replace y2 := hg.cell y2 (by simp); replace z0 := hg.cell z0 (by simp); replace z1 := hg.cell z1 (by simp)
  replace t0 := hg.cell t0 (by simp); replace t1 := hg.cell t1 (by simp); replace bx2 := (hg.block _ (lt_of_block bx2) (by simp)).trans bx2; replace hW := grown_trans hW hg
  clear hg
  go_wp2_with fail
  refine (denominator_any hD kD (by omega) (by omega)).mono ?_
  rintro ee v4 ⟨q5, m5, d5, rfl, hY, hm5, hg⟩
  replace hA := hA.keep hg; replace hE := hE.keep hg; replace hB := hB.keep hg; replace hF := hF.keep hg
  replace hN := hN.keep hg; replace hD := hD.keep hg; replace kN := kN.keep hg; replace kD := kD.keep hg
  replace hX := hX.keep hg; replace x0 := hg.cell x0 (by simp); replace x1 := hg.cell x1 (by simp); replace x2 := hg.cell x2 (by simp)
  replace y0 := hg.cell y0 (by simp); replace y1 := hg.cell y1 (by simp); replace y2 := hg.cell y2 (by simp); replace z0 := hg.cell z0 (by simp)
  replace z1 := hg.cell z1 (by simp); replace t0 := hg.cell t0 (by simp); replace t1 := hg.cell t1 (by simp); replace bx2 := (hg.block _ (lt_of_block bx2) (by simp)).trans bx2
  replace hW := grown_trans hW hg
  clear hg
  go_wp2_with fail
  refine (lowest_v (B := 4 * S + 20) (HT.out.keep hW) hX.z hY HD.out (by omega) (by omega) (by omega)).mono ?_
  rintro ee v5 ⟨g6, p6, n6, c6, q6, m6, d6, rfl, hZ, hn6, hm6, hg⟩
  replace hA := hA.keep hg; replace hE := hE.keep hg; replace hB := hB.keep hg; replace hF := hF.keep hg
  replace hN := hN.keep hg; replace hD := hD.keep hg; replace kN := kN.keep hg; replace kD := kD.keep hg
  replace hX := hX.keep hg; replace hY := hY.keep hg; replace x0 := hg.cell x0 (by simp); replace x1 := hg.cell x1 (by simp)
  replace x2 := hg.cell x2 (by simp); replace y0 := hg.cell y0 (by simp); replace y1 := hg.cell y1 (by simp); replace y2 := hg.cell y2 (by simp)
  replace z0 := hg.cell z0 (by simp); replace z1 := hg.cell z1 (by simp); replace t0 := hg.cell t0 (by simp); replace t1 := hg.cell t1 (by simp)
  replace bx2 := (hg.block _ (lt_of_block bx2) (by simp)).trans bx2; replace hW := grown_trans hW hg
  clear hg
  obtain ⟨l0, l1, l2, f0, f1, f2⟩ := ratbox_facts bx2
  go_wp2_with fail
  exact bodyPost_ret (v := .agg #[.bool g6, .slice p6 n6 c6, .slice q6 m6 d6]) (by simp [results, Tryz.results100, go_sem, l0, l1, l2, f0, f1, f2]) rfl
    (VPost.close bx2 (by omega) hW (hZ.congr HV.out) hn6 hm6)
end Go.Proofs.YtgbfjneoieadmaaGreatDoor

set_option linter.unusedVariables false
set_option linter.unusedSimpArgs false
namespace Go.Proofs.YtgbfjneoieadmaaGreatDoor
open Go.RowKit Nm

set_option maxHeartbeats 2000000 in
theorem right_both {w : World} (g : Bool) {p : Option Addr} {n c : Nat} {xs : List Nat} (hA : IRd w .u16 p n c xs) :
    ∃ v : Bool, (∀ W, w.grownBy W none → Calls Tryz.prog 200 #[.agg #[.bool g, .slice p n c]] W fun e w' => e = .returned (.bool v) ∧ W.grownBy w' none) ∧
      (∀ W, w.grownBy W none → Calls Tryz.prog 73 #[.agg #[.bool g, .slice p n c]] W fun e w' => e = .returned (.bool v) ∧ W.grownBy w' none) := by
  have hmax := hA.max
  have hcap := hA.cap
  by_cases h0 : n = 0
  · subst h0
    refine ⟨!g, fun W hW => ?_, fun W hW => ?_⟩
    · have hgb := World.grownBy_alloc W (.cells #[.bool g, .slice p 0 c] 25) none
      clear hW
      cases g
      all_goals
        go_enter Tryz.func200, Tryz.ntmps200
        go_wp2
        go_ret
        exact ⟨rfl, hgb⟩
    · have hgb := World.grownBy_alloc W (.cells #[.bool g, .slice p 0 c] 25) none
      clear hW
      cases g
      all_goals
        go_enter Tryz.func73, Tryz.ntmps73
        go_wp2
        go_ret
        exact ⟨rfl, hgb⟩
  · obtain ⟨top, rfl⟩ : ∃ top, n = top + 1 := ⟨n - 1, by omega⟩
    have hlen := hA.len
    have htl : top < xs.length := by omega
    obtain ⟨b, o, rfl, hc⟩ := IRd.cel hA top htl
    have hb := World.block_lt_of_cell? _ _ hc
    obtain ⟨t, ht⟩ : ∃ t, t = xs[top] := ⟨_, rfl⟩
    rw [← ht] at hc
    clear ht h0 hlen hA
    by_cases h0 : t = 0
    · subst h0
      refine ⟨false, fun W hW => ?_, fun W hW => ?_⟩
      · have hgb := World.grownBy_alloc W (.cells #[.bool g, .slice (some ⟨b, o, none⟩) (top + 1) c] 25) none
        have hc2 := hgb.cell (hW.cell hc (by simp)) (by simp)
        clear hW hc hb
        go_enter Tryz.func200, Tryz.ntmps200
        go_wp2
        go_ret
        exact ⟨rfl, hgb⟩
      · have hgb := World.grownBy_alloc W (.cells #[.bool g, .slice (some ⟨b, o, none⟩) (top + 1) c] 25) none
        have hc2 := hgb.cell (hW.cell hc (by simp)) (by simp)
        clear hW hc hb
        go_enter Tryz.func73, Tryz.ntmps73
        go_wp2
        go_ret
        exact ⟨rfl, hgb⟩
    · have hne : (((t : Int) != 0) = true) := by simp; omega
      clear h0
      refine ⟨true, fun W hW => ?_, fun W hW => ?_⟩
      · have hgb := World.grownBy_alloc W (.cells #[.bool g, .slice (some ⟨b, o, none⟩) (top + 1) c] 25) none
        have hc2 := hgb.cell (hW.cell hc (by simp)) (by simp)
        clear hW hc hb
        go_enter Tryz.func200, Tryz.ntmps200
        go_wp2
        go_ret
        exact ⟨rfl, hgb⟩
      · have hgb := World.grownBy_alloc W (.cells #[.bool g, .slice (some ⟨b, o, none⟩) (top + 1) c] 25) none
        have hc2 := hgb.cell (hW.cell hc (by simp)) (by simp)
        clear hW hc hb
        cases g
        all_goals
          go_enter Tryz.func73, Tryz.ntmps73
          go_wp2
          go_ret
          exact ⟨rfl, hgb⟩

theorem IsI.sort {w : World} {g : Bool} {p : Option Addr} {n c : Nat} {Z : Int} (h : IsI w g p n c Z) :
    (n = 0 ∧ g = false ∧ cmpI Z 0 = 0) ∨ (0 < n ∧ g = true ∧ cmpI Z 0 = -1) ∨ (0 < n ∧ g = false ∧ cmpI Z 0 = 1) := by
  have hp := h.1.pos_len
  have hg := h.2
  rcases Int.lt_trichotomy Z 0 with h1 | h1 | h1
  · refine .inr (.inl ⟨?_, by rw [hg]; simpa using h1, by unfold cmpI; simp [h1]⟩)
    have : decide (0 < Z.natAbs) = true := by simp; omega
    rw [this] at hp; simpa using hp
  · subst h1
    refine .inl ⟨?_, by rw [hg]; rfl, rfl⟩
    simp at hp; omega
  · refine .inr (.inr ⟨?_, by rw [hg]; simp; omega, by unfold cmpI; simp [h1]; omega⟩)
    have : decide (0 < Z.natAbs) = true := by simp; omega
    rw [this] at hp; simpa using hp

theorem IsI.sgn {w : World} {g : Bool} {p : Option Addr} {n c : Nat} {Z : Int} (h : IsI w g p n c Z) : (g = true ∧ Z < 0) ∨ (g = false ∧ 0 ≤ Z) := by
  have hg := h.2
  by_cases h1 : Z < 0
  · exact .inl ⟨by rw [hg]; simpa using h1, h1⟩
  · exact .inr ⟨by rw [hg]; simpa using h1, by omega⟩

theorem boxed {w w1 : World} {G : Nat} {u v : Value} (hg : w.grownBy w1 none) (hG : w.heap.size ≤ G) : w.grownBy ((w1.setCell ⟨G, 0, none⟩ u).setCell ⟨G, 1, none⟩ v) none :=
  grown_new hg (grown_trans (grown_setCell w1 ⟨G, 0, none⟩ u) (grown_setCell _ ⟨G, 1, none⟩ v)) (fun g e => by cases e; exact hG)

set_option maxHeartbeats 2000000 in
theorem rSign_any {w : World} {g : Bool} {p : Option Addr} {n c : Nat} {Z : Int} (hA : IsZ w g p n c Z) (hn : n ≤ 400000) :
    Calls Tryz.prog 107 #[.agg #[.bool g, .slice p n c]] w fun e w' => e = .returned (.int .i64 (cmpI Z 0)) ∧ w.grownBy w' none := by
  have hg1 := World.grownBy_alloc w (.cells #[.bool g, .slice p n c] 25) none
  go_enter Tryz.func107, Tryz.ntmps107
  go_wp2_with fail
  refine (rNorm_any (hA.keep hg1) hn).mono ?_
  rintro e w1 ⟨g1, p1, n1, c1, rfl, h1, hn1, hg⟩
  have hc1 := gcell hg
  have hf1 := gfree hg
  have hz1 := hg.size
  simp at hz1
  have HG := hid (fun u v => boxed (u := u) (v := v) (grown_trans hg1 hg) (Nat.le_refl _))
  have hs := h1.sort
  clear h1 hA hn hn1
  rcases hs with ⟨rfl, rfl, hr⟩ | ⟨h0, rfl, hr⟩ | ⟨h0, rfl, hr⟩
  · have HR := hid hr
    clear hr
    go_wp2
    go_ret
    exact ⟨by rw [HR.out]; rfl, HG.out _ _⟩
  all_goals
    have HR := hid hr
    clear hr
    have hne : ((n1 : Int) == 0) = false := by simp; omega
    go_wp2
    go_ret
    exact ⟨by rw [HR.out]; rfl, HG.out _ _⟩

/-- two integers are stored into two boxes, one after the other -/
theorem two_set {w w5 : World} {G G2 : Nat} {x x2 : Bool} {y y2 : Option Addr} {a b a2 b2 : Nat} {T T2 : TypeId} {g h : Bool} {p q : Option Addr} {n c m d : Nat} {Q R : Int}
    (hb : w5.heap[G]? = some (.cells #[.bool x, .slice y a b] T (0, 0))) (hb2 : w5.heap[G2]? = some (.cells #[.bool x2, .slice y2 a2 b2] T2 (0, 0))) (hG : w.heap.size ≤ G) (hG2 : w.heap.size ≤ G2) (hne : G2 ≠ G)
    (hg : w.grownBy w5 none) (h5 : IsI w5 g p n c Q) (h6 : IsI w5 h q m d R) :
    ∃ W, ((((w5.setCell ⟨G, 0, none⟩ (.bool g)).setCell ⟨G, 1, none⟩ (.slice p n c)).setCell ⟨G2, 0, none⟩ (.bool h)).setCell ⟨G2, 1, none⟩ (.slice q m d)) = W ∧
      IsI W g p n c Q ∧ IsI W h q m d R ∧ w.grownBy W none ∧ W.cell? ⟨G, 0, none⟩ = some (.bool g) ∧ W.cell? ⟨G, 1, none⟩ = some (.slice p n c) ∧ W.cell? ⟨G2, 0, none⟩ = some (.bool h) ∧ W.cell? ⟨G2, 1, none⟩ = some (.slice q m d) := by
  have k0 := cell_of_row w5 G 0 _ _ _ hb
  have k1 := cell_of_row w5 G 1 _ _ _ hb
  have k2 := cell_of_row w5 G2 0 _ _ _ hb2
  have k3 := cell_of_row w5 G2 1 _ _ _ hb2
  simp at k0 k1 k2 k3
  have hne2 : G ≠ G2 := fun e => hne e.symm
  have h56 : w5.grownBy ((w5.setCell ⟨G, 0, none⟩ (.bool g)).setCell ⟨G, 1, none⟩ (.slice p n c)) (some G) := grown_trans (grown_setCell _ _ _) (grown_setCell _ ⟨G, 1, none⟩ _)
  have hb3 := (h56.block G2 (lt_of_block hb2) (by simpa using hne)).trans hb2
  have h67 : ((w5.setCell ⟨G, 0, none⟩ (.bool g)).setCell ⟨G, 1, none⟩ (.slice p n c)).grownBy ((((w5.setCell ⟨G, 0, none⟩ (.bool g)).setCell ⟨G, 1, none⟩ (.slice p n c)).setCell ⟨G2, 0, none⟩ (.bool h)).setCell ⟨G2, 1, none⟩ (.slice q m d)) (some G2) := grown_trans (grown_setCell _ _ _) (grown_setCell _ ⟨G2, 1, none⟩ _)
  refine ⟨_, rfl, (h5.other hb h56).other hb3 h67, (h6.other hb h56).other hb3 h67, grown_new (grown_new hg h56 (fun g e => by cases e; exact hG)) h67 (fun g e => by cases e; exact hG2), ?_, ?_, ?_, ?_⟩
  all_goals simp [go_sem, *]

set_option maxHeartbeats 4000000 in
theorem rCmp_any {w : World} {ga gb : Bool} {p q : Option Addr} {n c m d : Nat} {X Y : Int} (hA : IsZ w ga p n c X) (hB : IsZ w gb q m d Y) (hn : n ≤ 400000) (hm : m ≤ 400000) :
    Calls Tryz.prog 120 #[.agg #[.bool ga, .slice p n c], .agg #[.bool gb, .slice q m d]] w fun e w' => e = .returned (.int .i64 (cmpI X Y)) ∧ w.grownBy w' none := by
  have hg2 := grown_trans (World.grownBy_alloc w (.cells #[.bool ga, .slice p n c] 25) none) (World.grownBy_alloc _ (.cells #[.bool gb, .slice q m d] 25) none)
  have HA := hid (fun W (h : w.grownBy W none) => rNorm_any (hA.keep h) hn)
  have HB := hid (fun W (h : w.grownBy W none) => rNorm_any (hB.keep h) hm)
  go_enter Tryz.func120, Tryz.ntmps120
  go_wp2_with fail
  go_region_with (first
    | (go_at_call 144; (with_reducible refine (HA.out _ (grown_trans hg2 (grown_drew _ none))).mono ?_); rintro e w3 ⟨g3, p3, n3, c3, rfl, h3, hn3, hg3⟩; have hc3 := gcell hg3; have hf3 := gfree hg3; have hz3 := hg3.size; simp at hz3)
    | (go_at_call 144; (with_reducible refine (HB.out _ (grown_trans (grown_trans hg2 (grown_drew _ none)) hg3)).mono ?_); rintro e w4 ⟨g4, p4, n4, c4, rfl, h4, hn4, hg4⟩; have hg34 := grown_trans hg3 hg4; clear hc3 hf3 hz3; have hc4 := gcell hg34; have hf4 := gfree hg34; have hz4 := hg34.size; simp at hz4))
  all_goals
    have hb := (hg34.block w.heap.size (by simp; omega) (by simp)).trans ((Below.heap_alloc (w.alloc (.cells #[.bool ga, .slice p n c] 25)) (.cells #[.bool gb, .slice q m d] 25) w.heap.size (by simp)).trans (heap_alloc_new w (.cells #[.bool ga, .slice p n c] 25)))
    have hb2 := (hg34.block (w.heap.size + 1) (by simp) (by simp)).trans (second w (.cells #[.bool ga, .slice p n c] 25) (.cells #[.bool gb, .slice q m d] 25))
    obtain ⟨W, hWe, i3, i4, hgW, k0, k1, k2, k3⟩ := two_set hb hb2 (Nat.le_refl _) (by omega) (by omega) (grown_trans (grown_trans hg2 (grown_drew _ none)) hg34) (h3.keep hg4) h4
    rw [hWe]
    have C1 := hid (refCmp_n i3.1.isN i4.1.isN)
    have C2 := hid (refCmp_n i4.1.isN i3.1.isN)
    clear hWe hb hb2 hc4 hf4 hz4 h3 h4 hg3 hg34 hg4 HA HB hA hB
    rcases i3.sgn with ⟨rfl, sX⟩ | ⟨rfl, sX⟩
    · rcases i4.sgn with ⟨rfl, sY⟩ | ⟨rfl, sY⟩
      · have HE : Hid (cmpI (Y.natAbs : Nat) (X.natAbs : Nat) = cmpI X Y) := hid (by unfold cmpI; (repeat' split) <;> omega)
        clear sX sY i3 i4
        go_wp2_with fail
        refine C2.out.mono ?_
        rintro e w6 ⟨rfl, rfl⟩
        go_wp2_with fail
        go_ret
        exact ⟨by rw [← HE.out]; rfl, hgW⟩
      · have HE : Hid (cmpI X Y = -1) := hid (by unfold cmpI; (repeat' split) <;> omega)
        clear sX sY i3 i4
        go_wp2
        go_ret
        exact ⟨by rw [HE.out]; rfl, hgW⟩
    · rcases i4.sgn with ⟨rfl, sY⟩ | ⟨rfl, sY⟩
      · have HE : Hid (cmpI X Y = 1) := hid (by unfold cmpI; (repeat' split) <;> omega)
        clear sX sY i3 i4
        go_wp2
        go_ret
        exact ⟨by rw [HE.out]; rfl, hgW⟩
      · have HE : Hid (cmpI (X.natAbs : Nat) (Y.natAbs : Nat) = cmpI X Y) := hid (by unfold cmpI; (repeat' split) <;> omega)
        clear sX sY i3 i4
        go_wp2_with fail
        refine C1.out.mono ?_
        rintro e w6 ⟨rfl, rfl⟩
        go_wp2_with fail
        go_ret
        exact ⟨by rw [← HE.out]; rfl, hgW⟩
theorem rofat (x : Int) (N : Nat) (hx : x = (N : Int)) (hb : N < W64) (w : World) :
    Calls Tryz.prog 77 #[.int .u64 x] w fun e w' => ∃ p' n' c', e = .returned (.slice p' n' c') ∧ IsC w' p' n' c' N ∧ n' ≤ 4 ∧ w.grownBy w' none := by
  subst hx
  exact (refOf_any N hb w).mono fun e w' ⟨a, c, h1, h2, h3⟩ => ⟨a, _, c, h1, h2, dg_len4 hb, h3⟩

set_option maxHeartbeats 2000000 in
theorem rOfNeg {z : Int} {N : Nat} (hz : z = -(N : Int) - 1) (hb : N < 9223372036854775808) (w : World) :
    Calls Tryz.prog 106 #[.int .i64 z] w (IPost w z 9) := by
  have hneg : z < 0 := by omega
  have hg1 := World.grownBy_alloc w (.cells #[.bool false, .slice none 0 0] 25) none
  have hz1 : -9223372036854775808 ≤ z := by omega
  have HZ : Hid (-(z + 1) = (N : Int)) := hid (by omega)
  have HN := hid (show N < W64 from Nat.lt_trans hb (by decide))
  have HE := hid (show sg true (N + 1) = z by simp [sg]; omega)
  clear hz hb
  go_enter Tryz.func106, Tryz.ntmps106
  go_wp2_with fail
  refine (rofat _ N HZ.out HN.out _).mono ?_
  rintro e w2 ⟨p2, n2, c2, rfl, h2, hn2, hg⟩
  have hW := grown_trans hg1 hg
  have hgB := hg
  clear hg
  go_wp2_with fail
  refine (rofat _ 1 rfl (by decide) _).mono ?_
  rintro e w3 ⟨p3, n3, c3, rfl, h3, hn3, hg⟩
  replace h2 := h2.keep hg; replace hgB := grown_trans hgB hg; clear hg
  go_wp2_with fail
  refine (refAdd_n h2.isN h3.isN (by omega) (by omega)).mono ?_
  rintro e w4 ⟨p4, n4, c4, rfl, h4, hn4, hg⟩
  replace hgB := grown_trans hgB hg; clear hg
  go_wp2_with fail
  refine (rOf_any true h4.isN (by omega)).mono ?_
  rintro e w5 ⟨g5, p5, n5, c5, rfl, h5, hn5, hg⟩
  replace hgB := grown_trans hgB hg; clear hg
  have hc4 := gcell hgB
  have hf4 := gfree hgB
  have hz4 := hgB.size
  simp at hz4
  rw [HE.out] at h5
  go_wp2_with fail
  exact bodyPost_ret (v := .agg #[.bool g5, .slice p5 n5 c5]) (by simp [results, Tryz.results106, go_sem, hc4]) rfl (IPost.close hg1 (heap_alloc_new w _) (Nat.le_refl _) hgB h5 (by omega))

set_option maxHeartbeats 2000000 in
theorem rOfPos {z : Int} {N : Nat} (hz : z = (N : Int)) (hb : N < 9223372036854775808) (w : World) :
    Calls Tryz.prog 106 #[.int .i64 z] w (IPost w z 9) := by
  have hneg : ¬ z < 0 := by omega
  have hz1 : z ≤ 9223372036854775807 := by omega
  have hg1 := World.grownBy_alloc w (.cells #[.bool false, .slice none 0 0] 25) none
  have HZ := hid hz
  have HN := hid (show N < W64 from Nat.lt_trans hb (by decide))
  have HE := hid (show sg false N = z by simp [sg]; omega)
  clear hz hb
  go_enter Tryz.func106, Tryz.ntmps106
  go_wp2_with fail
  refine (rofat _ N (by first | exact HZ.out | (rw [IntKind.wrap_u64]; have := HZ.out; omega)) HN.out _).mono ?_
  rintro e w2 ⟨p2, n2, c2, rfl, h2, hn2, hg⟩
  have hgB := hg
  clear hg
  go_wp2_with fail
  refine (rOf_any false h2.isN (by omega)).mono ?_
  rintro e w5 ⟨g5, p5, n5, c5, rfl, h5, hn5, hg⟩
  replace hgB := grown_trans hgB hg; clear hg
  have hc4 := gcell hgB
  have hf4 := gfree hgB
  have hz4 := hgB.size
  simp at hz4
  rw [HE.out] at h5
  go_wp2_with fail
  exact bodyPost_ret (v := .agg #[.bool g5, .slice p5 n5 c5]) (by simp [results, Tryz.results106, go_sem, hc4]) rfl (IPost.close hg1 (heap_alloc_new w _) (Nat.le_refl _) hgB h5 (by omega))

theorem rOfI (z : Int) (w : World) (h1 : -9223372036854775808 ≤ z) (h2 : z ≤ 9223372036854775807) : Calls Tryz.prog 106 #[.int .i64 z] w (IPost w z 9) := by
  by_cases h : z < 0
  · exact (rOfNeg (N := (-(z + 1)).toNat) (by omega) (by omega) w).mono fun e w' ⟨g, p, n, c, h1, h2, h3, h4⟩ => ⟨g, p, n, c, h1, h2, h3, h4⟩
  · exact rOfPos (N := z.toNat) (by omega) (by omega) w
end Go.Proofs.YtgbfjneoieadmaaGreatDoor

set_option linter.unusedVariables false
set_option linter.unusedSimpArgs false
namespace Go.Proofs.YtgbfjneoieadmaaGreatDoor
open Go.RowKit Nm

theorem IsI.zero (w : World) : IsI w false none 0 0 0 := ⟨IsC.nil w, by simp⟩
theorem rn_zero : rn 0 1 = 0 := by unfold rn; simp [sg_zero]
theorem rd_zero : rd 0 1 = 1 := by unfold rd; simp

set_option maxHeartbeats 4000000 in
theorem over_any {w : World} {g : Bool} {p q : Option Addr} {n c m d D : Nat} {N : Int} (hA : IsZ w g p n c N) (hB : IsN w q m d D) (hn : n ≤ 300000) (hm : m ≤ 300000) :
    Calls Tryz.prog 123 #[.agg #[.bool g, .slice p n c], .slice q m d] w (LPost w (rn (pn N D) (pd D)) (rd (pn N D) (pd D)) n (m + 4)) := by
  have hb2 := grown_trans (World.grownBy_alloc w (.cells #[.bool g, .slice p n c] 25) none) (World.grownBy_alloc _ (.cells #[.bool false, .slice none 0 0, .slice none 0 0] 27) none)
  have H1 := hid (refNorm_n (hB.keep hb2) (by omega))
  by_cases e : D = 0
  · have e1 : pn N D = 0 := by unfold pn; rw [if_pos e]
    have e2 : pd D = 1 := by unfold pd; rw [if_pos e]
    rw [e1, e2, rn_zero, rd_zero]
    have HO := hid (fun W => refOf_c 1 (by unfold W64; omega) W)
    go_enter Tryz.func123, Tryz.ntmps123
    go_wp2_with fail
    refine H1.out.mono ?_
    rintro ee w1 ⟨p1, n1, c1, rfl, h1, hn1, hg1⟩
    obtain rfl : n1 = 0 := by
      rcases h1.zero_len with ⟨h, _⟩ | ⟨_, h⟩
      · exact h
      · omega
    go_wp2_with fail
    refine (HO.out _).mono ?_
    rintro ee w2 ⟨p2, n2, c2, rfl, h2, hn2, hg2⟩
    have hg := grown_trans hg1 hg2
    have hc := gcell hg
    have hf := gfree hg
    have hz := hg.size
    simp at hz
    go_wp2_with fail
    exact bodyPost_ret (v := .agg #[.bool false, .slice none 0 0, .slice p2 n2 c2]) (by simp [results, Tryz.results123, go_sem, hc]) rfl
      (LPost.close ((hg.block _ (by simp) (by simp)).trans (second w _ _)) (by omega) (grown_trans hb2 hg) (IsI.zero _) h2 (by omega) (by omega))
  · have e1 : pn N D = N := by unfold pn; rw [if_neg e]
    have e2 : pd D = D := by unfold pd; rw [if_neg e]
    rw [e1, e2]
    have HG := hid (fun W (h : w.grownBy W none) => refGcd_n (hA.1.keep h) (hB.keep h) (by omega) (by omega))
    unfold RPost at HG
    have GP : 0 < Nat.gcd N.natAbs D := Nat.gcd_pos_of_pos_right _ (by omega)
    have SF := hid (sg_flag hA (Nat.gcd N.natAbs D))
    obtain ⟨G, hG⟩ : ∃ G, G = Nat.gcd N.natAbs D := ⟨_, rfl⟩
    have HGE := hid hG
    rw [← hG] at HG GP SF
    clear hG
    have GPH := hid GP
    go_enter Tryz.func123, Tryz.ntmps123
    go_wp2_with fail
    refine H1.out.mono ?_
    rintro ee w1 ⟨p1, n1, c1, rfl, h1, hn1, hg1⟩
    have t0 : (((n1 : Int) == 0) = false) := beq_eq_false_iff_ne.2 (by rcases h1.zero_len with ⟨_, h⟩ | ⟨h, _⟩ <;> omega)
    clear h1
    have hc := gcell hg1
    have hf := gfree hg1
    have hz := hg1.size
    simp at hz
    go_wp2_with fail
    refine (HG.out _ (grown_trans hb2 hg1)).mono ?_
    rintro ee w2 ⟨p2, n2, c2, rfl, h2, hn2, hg2⟩
    replace hg2 := grown_trans hg1 hg2
    clear hc hf hz
    have hc := gcell hg2
    have hf := gfree hg2
    have hz := hg2.size
    simp at hz
    go_wp2_with fail
    refine (refDivMod_n (hA.1.keep (grown_trans hb2 hg2)) h2.isN (by omega) (by omega) GPH.out).mono ?_
    rintro ee w3 ⟨p3, n3, c3, p4, n4, c4, rfl, h3, h4, hn3, hn4, hg3⟩
    replace h2 := h2.keep hg3
    replace hg3 := grown_trans hg2 hg3
    clear hc hf hz
    have hc := gcell hg3
    have hf := gfree hg3
    have hz := hg3.size
    simp at hz
    go_wp2_with fail
    refine (refDivMod_n (hB.keep (grown_trans hb2 hg3)) h2.isN (by omega) (by omega) GPH.out).mono ?_
    rintro ee w4 ⟨p5, n5, c5, p6, n6, c6, rfl, h5, h6, hn5, hn6, hg4⟩
    replace h3 := h3.keep hg4
    replace hg4 := grown_trans hg3 hg4
    clear hc hf hz
    have hc := gcell hg4
    have hf := gfree hg4
    have hz := hg4.size
    simp at hz
    go_wp2_with fail
    refine (rNorm_any (IsZ.mk g h3.isN) (by omega)).mono ?_
    rintro ee w5 ⟨g7, p7, n7, c7, rfl, h7, hn7, hg5⟩
    replace h5 := h5.keep hg5
    replace hg5 := grown_trans hg4 hg5
    clear hc hf hz
    have hc := gcell hg5
    have hf := gfree hg5
    have hz := hg5.size
    simp at hz
    go_wp2_with fail
    exact bodyPost_ret (v := .agg #[.bool g7, .slice p7 n7 c7, .slice p5 n5 c5]) (by simp [results, Tryz.results123, go_sem, hc]) rfl
      (LPost.close ((hg5.block _ (by simp) (by simp)).trans (second w _ _)) (by omega) (grown_trans hb2 hg5) (by unfold rn; rw [← HGE.out, ← SF.out]; exact h7) (by unfold rd; rw [← HGE.out]; exact h5) (by omega) (by omega))

theorem norm3_any {w : World} {g : Bool} {p q : Option Addr} {n c m d D : Nat} {N : Int} (hA : IsZ w g p n c N) (hB : IsN w q m d D) (hn : n ≤ 300000) (hm : m ≤ 300000) :
    Calls Tryz.prog 108 #[.agg #[.bool g, .slice p n c, .slice q m d]] w (LPost w (rn (pn N D) (pd D)) (rd (pn N D) (pd D)) n (m + 4)) := by
  have hb2 := grown_trans (World.grownBy_alloc w (.cells #[.bool g, .slice p n c, .slice q m d] 27) none) (World.grownBy_alloc _ (.cells #[.bool false, .slice none 0 0, .slice none 0 0] 27) none)
  have HO := hid (over_any (hA.keep hb2) (hB.keep hb2) hn hm)
  generalize rn (pn N D) (pd D) = X at *
  generalize rd (pn N D) (pd D) = Y at *
  unfold LPost at HO
  go_enter Tryz.func108, Tryz.ntmps108
  go_wp2_with fail
  refine HO.out.mono ?_
  rintro ee w1 ⟨g1, p1, n1, c1, q1, m1, d1, rfl, h1, h2, hn1, hm1, hg⟩
  have hc := gcell hg
  have hf := gfree hg
  have hz := hg.size
  simp at hz
  go_wp2_with fail
  exact bodyPost_ret (v := .agg #[.bool g1, .slice p1 n1 c1, .slice q1 m1 d1]) (by simp [results, Tryz.results108, go_sem, hc]) rfl
    (LPost.close ((hg.block _ (by simp) (by simp)).trans (second w _ _)) (by omega) (grown_trans hb2 hg) h1 h2 hn1 hm1)
end Go.Proofs.YtgbfjneoieadmaaGreatDoor

set_option linter.unusedVariables false
set_option linter.unusedSimpArgs false
namespace Go.Proofs.YtgbfjneoieadmaaGreatDoor
open Go.RowKit Nm


end Go.Proofs.YtgbfjneoieadmaaGreatDoor

set_option linter.unusedVariables false
set_option linter.unusedSimpArgs false
namespace Go.Proofs.YtgbfjneoieadmaaGreatDoor
open Go.ChangeShapes Go.WideShapes Go.ChangeAt Go.RowKit Nm

theorem own1 : ownKnob Tryz.prog.godebug = none := by kernel_rfl
theorem laidOut1 : laidOutB Tryz.prog = true := by kernel_rfl
theorem cells16 : Tryz.prog.cellsOf 112 = 1 := by kernel_rfl
theorem readNat : Tryz.prog.readableRec 23 = true := by kernel_rfl
theorem rowNat : 23 < Tryz.prog.types.size := of_decide_eq_true (by kernel_rfl)

section
variable {H : Type} {enc : TypeId × Value → H} {W : World} {v : Value} {d : DataW H} {ps : List MemPlace}
set_option maxRecDepth 100000 in
theorem open_nat (hval : Value.okWide Tryz.prog W .any 0 23 v) (h0 : DataW.Trod enc Tryz.prog W 0 (fun _ => true) true 23 v d ps) :
    ∃ a n c xs, v = .slice a n c ∧ IRd W .u16 a n c xs ∧ Dg 65536 xs := by
  obtain ⟨a0, len, cap, rfl⟩ := okWide_slice Tryz.underlying23 hval
  obtain ⟨fuel, hf⟩ := h0
  refine ⟨a0, len, cap, ?_⟩
  rcases open_ints Tryz.underlying23 Tryz.underlying112 cells16 hf with ⟨hcs, hx⟩ | ⟨a, len', cap', zs, hcs, _, hl, hm, hz, hx, hcell, hwz⟩
  · simp [Value.cells] at hcs
    obtain ⟨rfl, rfl, rfl⟩ := hcs
    exact ⟨[], rfl, IRd.nil W _, Dg.nil⟩
  · simp [Value.cells] at hcs
    obtain ⟨rfl, rfl, rfl⟩ := hcs
    simp only [if_true] at hz
    have hb : ∀ z ∈ zs, 0 ≤ z ∧ z ≤ 65535 := fun z hzm => bounds_u16 (hwz z hzm)
    refine ⟨(zs.take len).map Int.toNat, rfl, ⟨by simp; omega, hl, by unfold maxLen at hm; omega, fun j hj => ?_⟩, fun x hx' => ?_⟩
    · have hj' : j < len := by simp at hj; omega
      have hc := hcell j (by omega)
      have hg : zs.getD j 0 = zs[j]'(by omega) := by simp [List.getD, List.getElem?_eq_getElem (show j < zs.length by omega)]
      have hsp := World.cell?_spot (hcell 0 (by omega))
      have ha : ∃ b o, a = ⟨b, o, none⟩ := ⟨a.block, a.off, by
        cases a with
        | mk b o s => simp [Addr.add] at hsp; simp [hsp]⟩
      obtain ⟨b, o, rfl⟩ := ha
      refine ⟨b, o, rfl, ?_⟩
      rw [add_addr] at hc
      rw [hc, hg]
      have := hb _ (List.getElem_mem (show j < zs.length by omega))
      simp only [List.getElem_map, List.getElem_take]
      congr 2; omega
    · obtain ⟨z, hz1, rfl⟩ := List.mem_map.1 hx'
      have := hb z (List.mem_of_mem_take hz1)
      omega
end
end Go.Proofs.YtgbfjneoieadmaaGreatDoor

set_option linter.unusedVariables false
set_option linter.unusedSimpArgs false
namespace Go.Proofs.YtgbfjneoieadmaaGreatDoor
open Go.ChangeShapes Go.WideShapes Go.ChangeAt Go.RowKit Nm

theorem readInt : Tryz.prog.readableRec 25 = true := by kernel_rfl
theorem rowInt : 25 < Tryz.prog.types.size := of_decide_eq_true (by kernel_rfl)
theorem cellsInt : Tryz.prog.cellsOf 25 = 2 := by kernel_rfl
theorem cellsNat : Tryz.prog.cellsOf 23 = 1 := by kernel_rfl
theorem cellsBool : Tryz.prog.cellsOf 4 = 1 := by kernel_rfl

section
variable {H : Type} {enc : TypeId × Value → H} {W : World} {v : Value} {d : DataW H} {ps : List MemPlace}
set_option maxRecDepth 100000 in
theorem open_natcs {fuel : Nat} {cs : List Value} {x : DataW H × List MemPlace} (hf : DataW.trod enc Tryz.prog W 0 (fun _ => true) true fuel 23 cs = some x) :
    ∃ a n c xs, cs = [.slice a n c] ∧ IRd W .u16 a n c xs ∧ Dg 65536 xs := by
  rcases open_ints Tryz.underlying23 Tryz.underlying112 cells16 hf with ⟨hcs, hx⟩ | ⟨a, len', cap', zs, hcs, _, hl, hm, hz, hx, hcell, hwz⟩
  · exact ⟨none, 0, 0, [], hcs, IRd.nil W _, Dg.nil⟩
  · simp only [if_true] at hz
    have hb : ∀ z ∈ zs, 0 ≤ z ∧ z ≤ 65535 := fun z hzm => bounds_u16 (hwz z hzm)
    refine ⟨some a, len', cap', (zs.take len').map Int.toNat, hcs, ⟨by simp; omega, hl, by unfold maxLen at hm; omega, fun j hj => ?_⟩, fun x hx' => ?_⟩
    · have hj' : j < len' := by simp at hj; omega
      have hc := hcell j (by omega)
      have hg : zs.getD j 0 = zs[j]'(by omega) := by simp [List.getD, List.getElem?_eq_getElem (show j < zs.length by omega)]
      have hsp := World.cell?_spot (hcell 0 (by omega))
      have ha : ∃ b o, a = ⟨b, o, none⟩ := ⟨a.block, a.off, by
        cases a with
        | mk b o s => simp [Addr.add] at hsp; simp [hsp]⟩
      obtain ⟨b, o, rfl⟩ := ha
      refine ⟨b, o, rfl, ?_⟩
      rw [add_addr] at hc
      rw [hc, hg]
      have := hb _ (List.getElem_mem (show j < zs.length by omega))
      simp only [List.getElem_map, List.getElem_take]
      congr 2; omega
    · obtain ⟨z, hz1, rfl⟩ := List.mem_map.1 hx'
      have := hb z (List.mem_of_mem_take hz1)
      omega

set_option maxRecDepth 100000 in
theorem open_Int (hval : Value.okWide Tryz.prog W .any 0 25 v) (h0 : DataW.Trod enc Tryz.prog W 0 (fun _ => true) true 25 v d ps) :
    ∃ g a n c xs, v = .agg #[.bool g, .slice a n c] ∧ IRd W .u16 a n c xs ∧ Dg 65536 xs := by
  obtain ⟨cs, rfl, hsz⟩ := okWide_struct Tryz.underlying25 hval
  obtain ⟨fuel, hf⟩ := h0
  obtain ⟨y0, y1, k, hx, hl, h0, h1⟩ := trod_struct2 Tryz.underlying25 hf
  rw [cellsInt] at hl
  obtain ⟨b, hb, _⟩ := DataW.trod_bool Tryz.underlying4 h0
  obtain ⟨a, n, c, xs, hs, hr, hd⟩ := open_natcs h1
  rw [cellsBool] at hb
  rw [cellsNat] at hs
  refine ⟨b, a, n, c, xs, ?_, hr, hd⟩
  simp only [Value.cells] at hl hb hs
  obtain ⟨l⟩ := cs
  match l, hl with
  | [u, v], _ =>
    simp at hb hs
    rw [hb, hs]
end
end Go.Proofs.YtgbfjneoieadmaaGreatDoor

set_option linter.unusedVariables false
set_option linter.unusedSimpArgs false
namespace Go.Proofs.YtgbfjneoieadmaaGreatDoor
open Go.ChangeShapes Go.WideShapes Go.ChangeAt Go.RowKit Nm

theorem readRat : Tryz.prog.readableRec 27 = true := by kernel_rfl
theorem rowRat : 27 < Tryz.prog.types.size := of_decide_eq_true (by kernel_rfl)
theorem cellsRat : Tryz.prog.cellsOf 27 = 3 := by kernel_rfl

section
variable {H : Type} {enc : TypeId × Value → H} {W : World} {v : Value} {d : DataW H} {ps : List MemPlace}
set_option maxRecDepth 100000 in
theorem open_Intcs {fuel : Nat} {cs : List Value} {x : DataW H × List MemPlace} (hf : DataW.trod enc Tryz.prog W 0 (fun _ => true) true fuel 25 cs = some x) (hl : cs.length = 2) :
    ∃ g a n c xs, cs = [.bool g, .slice a n c] ∧ IRd W .u16 a n c xs ∧ Dg 65536 xs := by
  obtain ⟨y0, y1, k, hx, _, h0, h1⟩ := trod_struct2 Tryz.underlying25 hf
  obtain ⟨b, hb, _⟩ := DataW.trod_bool Tryz.underlying4 h0
  obtain ⟨a, n, c, xs, hs, hr, hd⟩ := open_natcs h1
  rw [cellsBool] at hb
  rw [cellsNat] at hs
  refine ⟨b, a, n, c, xs, ?_, hr, hd⟩
  match cs, hl with
  | [u, v], _ =>
    simp at hb hs
    rw [hb, hs]

set_option maxRecDepth 100000 in
theorem open_Rat (hval : Value.okWide Tryz.prog W .any 0 27 v) (h0 : DataW.Trod enc Tryz.prog W 0 (fun _ => true) true 27 v d ps) :
    ∃ g a n c xs b m e ys, v = .agg #[.bool g, .slice a n c, .slice b m e] ∧ IRd W .u16 a n c xs ∧ Dg 65536 xs ∧ IRd W .u16 b m e ys ∧ Dg 65536 ys := by
  obtain ⟨cs, rfl, hsz⟩ := okWide_struct Tryz.underlying27 hval
  obtain ⟨fuel, hf⟩ := h0
  obtain ⟨y0, y1, k, hx, hl, h0, h1⟩ := trod_struct2 Tryz.underlying27 hf
  rw [cellsRat] at hl
  rw [cellsInt] at h0
  simp only [Value.cells] at hl h0 h1
  obtain ⟨l⟩ := cs
  match l, hl with
  | [u, v, t], _ =>
    obtain ⟨g, a, n, c, xs, hs, hr, hd⟩ := open_Intcs h0 (by simp)
    obtain ⟨b, m, e, ys, hs1, hr1, hd1⟩ := open_natcs h1
    rw [cellsNat] at hs1
    simp at hs hs1
    refine ⟨g, a, n, c, xs, b, m, e, ys, ?_, hr, hd, hr1, hd1⟩
    obtain ⟨rfl, rfl⟩ := hs
    rw [hs1]
end
end Go.Proofs.YtgbfjneoieadmaaGreatDoor

set_option linter.unusedVariables false
set_option linter.unusedSimpArgs false
namespace Go.Proofs.YtgbfjneoieadmaaGreatDoor
open Go.ChangeShapes Go.WideShapes Go.ChangeAt Go.RowKit Nm

theorem gTab : Tryz.prog.globalNamed "math/bits.deBruijn64tab" = some 0 := by kernel_rfl
theorem tTab : (Tryz.prog.globals[0]?).map (·.type) = some 185 := by kernel_rfl
theorem tab_data : (Rows.laid_math_bits_deBruijn64tab : DataW Unit) = Lib.tabData .u8 (Lib.deBruijn64tab.map Int.ofNat) := by rfl
theorem tb_of_tab {W : World} (h : Lib.TabIs Tryz.prog W "math/bits.deBruijn64tab" .u8 (Lib.deBruijn64tab.map Int.ofNat)) : Tb W := by
  intro j hj
  have hl : (Lib.deBruijn64tab.map Int.ofNat).length = 64 := by rfl
  have := h.cell gTab j (by omega)
  rw [this]
  congr 2
  have hl2 : Lib.deBruijn64tab.length = 64 := by rfl
  simp [List.getD, hl2, hj]
theorem tb_of_laid {W : World} (h : laidMetH Tryz.prog [("math/bits.deBruijn64tab", Rows.laid_math_bits_deBruijn64tab)] W) : Tb W := by
  rw [MakeChecks.laidMetH_plain _ _ _ (by kernel_rfl), tab_data] at h
  exact tb_of_tab (Lib.tabIs_of_head gTab tTab Tryz.underlying185 Tryz.underlying5 (by kernel_rfl) (by kernel_rfl) h)
end Go.Proofs.YtgbfjneoieadmaaGreatDoor

set_option linter.unusedVariables false
set_option linter.unusedSimpArgs false
namespace Go.Proofs.YtgbfjneoieadmaaGreatDoor
open Go.RowKit Nm

theorem cut16 (p : Nat) (hp : p < 16) : 2 ^ p * 2 ^ (16 - p) = 65536 := by rw [← Nat.pow_add, show p + (16 - p) = 16 by omega]

theorem or16 (a x p : Nat) (hp : p < 16) (ha : a < 2 ^ p) : bits .or .u16 (a : Int) ((x * 2 ^ p % 65536 : Nat) : Int) = ((a + x * 2 ^ p % 65536 : Nat) : Int) ∧ a + x * 2 ^ p % 65536 < 65536 := by
  have hlow := shl_low (x := x) (cut16 p hp)
  have hX : x * 2 ^ p % 65536 < 65536 := Nat.mod_lt _ (by decide)
  have hj := nat_join p (x * 2 ^ p % 65536) a (by rw [hlow]; exact Nat.mul_mod_left _ _) ha
  have hb : a + x * 2 ^ p % 65536 < 65536 := by
    have h1 : x % 2 ^ (16 - p) < 2 ^ (16 - p) := Nat.mod_lt _ (Nat.pow_pos (by omega))
    have h2 := Nat.mul_le_mul_right (2 ^ p) (show x % 2 ^ (16 - p) + 1 ≤ 2 ^ (16 - p) from h1)
    rw [Nat.add_mul, Nat.one_mul, Nat.mul_comm (2 ^ (16 - p)), cut16 p hp, ← hlow] at h2
    omega
  refine ⟨?_, hb⟩
  rw [u16_or_nat _ _ (by omega) hX, Nat.or_comm, hj, Nat.add_comm]

set_option maxHeartbeats 1000000 in
theorem shiftLeft_n {w : World} {p : Option Addr} {n c N s : Nat} (hA : IsN w p n c N) (hn : n ≤ 400000) (hs : s ≤ 4000000) :
    Calls Tryz.prog 196 #[.slice p n c, .int .i64 s] w fun e w' => ∃ p' n' c', e = .returned (.slice p' n' c') ∧ IsC w' p' n' c' (N * 2 ^ s) ∧ n' ≤ n + s / 16 + 1 ∧ w.grownBy w' none := by
  obtain ⟨L, h1, h2, rfl⟩ := hA
  have ht := h1.take (trimR L).length (by rw [← h1.len]; exact trimR_length_le L)
  rw [← trimR_eq_take] at ht
  have hcx := Can_trimR h2
  have hv := V_trimR (B := 65536) L
  have hl : (trimR L).length ≤ n := by rw [← h1.len]; exact trimR_length_le L
  have R1 := hid (trim16 p n c L w h1)
  rw [← hv]
  generalize trimR L = us at *
  clear hv h1 h2
  have hmax := ht.max
  have hcap := ht.cap
  by_cases h0 : us.length = 0
  · have hus : us = [] := List.eq_nil_of_length_eq_zero h0
    rw [h0] at R1
    subst hus
    rw [V_nil, Nat.zero_mul]
    clear h0
    go_enter Tryz.func196, Tryz.ntmps196
    go_wp2_with (go_at_call 178; (with_reducible refine (R1.out).mono ?_); rintro e w' ⟨rfl, rfl⟩)
    go_ret
    exact ⟨none, 0, 0, rfl, IsC.nil _, by omega, grown_refl _ _⟩
  · obtain ⟨q, hq⟩ : ∃ q, q = s / 16 := ⟨_, rfl⟩
    obtain ⟨r, hr⟩ : ∃ r, r = s % 16 := ⟨_, rfl⟩
    obtain ⟨m, hm⟩ : ∃ m, m = us.length := ⟨_, rfl⟩
    have hr16 : r < 16 := by omega
    have hsq : s = 16 * q + r := by omega
    have hqi : (s : Int) / 16 = (q : Int) := by omega
    have hri : (s : Int) % 16 = (r : Int) := by omega
    have e0 : (((us.length : Int) == 0) = false) := beq_eq_false_iff_ne.2 (by omega)
    rw [← hm] at R1 ht e0 hl h0
    rw [← hq]
    have HM := hid hm
    have HSQ := hid hsq
    obtain ⟨g, hg⟩ : ∃ g, g = w.heap.size := ⟨_, rfl⟩
    have hqb : q ≤ 250000 := by omega
    clear hq hr hsq hm
    go_enter Tryz.func196, Tryz.ntmps196
    go_wp2_with (first
      | (go_at_call 178; (with_reducible refine (R1.out).mono ?_); rintro e w' ⟨rfl, rfl⟩)
      | (at_make; refine wl_make _ rfl _ _ 23 rfl 112 .u16 2 Tryz.underlying23 (by kernel_rfl) _ _ _ _ rfl rfl (q + m + 1) (by omega) (by omega) (by omega) (by omega) ?_; intro w1 hr1 hg1))
    rw [← hg] at hr1 ⊢
    have HG := hid hg
    clear hg hqi hri R1
    go_loopw [28] (fun i wr => ∃ k : Nat, ∃ cu : List Nat, k ≤ m ∧ i = .int .i64 k ∧ IRow wr g 112 .u16 cu ∧ w1.grownBy wr (some g) ∧
        Hid (cu.length = q + m + 1 ∧ Dg 65536 cu ∧ V 65536 cu = 65536 ^ q * V 65536 (us.take k) * 2 ^ r ∧ (∀ j, q + k < j → j < q + m + 1 → cu[j]? = some 0) ∧ ∀ t, cu[q + k]? = some t → t < 2 ^ r)) (fun i _ => m - (intOf i).toNat)
    case atStart => exact ⟨0, _, Nat.zero_le _, rfl, hr1, grown_refl _ _, hid ⟨by simp, Dg.zeros (by decide) _, by rw [V_zeros]; simp, fun j h1 h2 => by simp [h2], fun t ht => by
      have : t = 0 := by
        rw [List.getElem?_replicate] at ht
        split at ht <;> simp at ht
        exact ht.symm
      rw [this]; exact Nat.pow_pos (by omega)⟩⟩
    case round =>
      obtain ⟨k, cu, hk, rfl, hr, hgr, HC⟩ := hrel
      by_cases hlt : k < m
      · have hku : k < us.length := by rw [← HM.out]; exact hlt
        obtain ⟨b', o', rfl, hc1⟩ := ht.cel k hku
        have hbl := World.block_lt_of_cell? _ _ hc1
        have hc2 := hgr.cell (hg1.cell hc1 (by simp)) (by intro e; have := HG.out; simp at e hbl; omega)
        obtain ⟨x, hx⟩ : ∃ x, x = us[k] := ⟨_, rfl⟩
        rw [← hx] at hc2
        have hxb : x < 65536 := by rw [hx]; exact hcx.1.get _ hku
        have hv := V_take_succ (B := 65536) us k hku
        rw [← hx] at hv
        have hcl : q + k < cu.length := by rw [HC.out.1]; omega
        have hcl1 : q + k + 1 < cu.length := by rw [HC.out.1]; omega
        have hcc := hr.cell (q + k) hcl
        have hfr := hr.free (q + k)
        have hcc1 := hr.cell (q + k + 1) hcl1
        have hfr1 := hr.free (q + k + 1)
        obtain ⟨t, ht'⟩ : ∃ t, t = cu[q + k] := ⟨_, rfl⟩
        rw [← ht'] at hcc
        have htb : t < 2 ^ r := HC.out.2.2.2.2 t (by rw [List.getElem?_eq_getElem hcl, ht'])
        have h0 : cu[q + k + 1] = 0 := by
          have := HC.out.2.2.2.1 (q + k + 1) (by omega) (by omega)
          rw [List.getElem?_eq_getElem hcl1] at this
          simpa using this
        rw [h0] at hcc1
        have hup := up_step (W := 65536) (S := 2 ^ r) (T := 2 ^ (16 - r)) (by decide) (cut16 r hr16) (Nat.pow_pos (by omega)) (Nat.pow_pos (by omega)) cu (q + k) x _ hcl1 hxb h0 HC.out.2.2.1
        have hos := or16 t x r hr16 htb
        have ev : 65536 ^ q * V 65536 (us.take k) + 65536 ^ (q + k) * x = 65536 ^ q * V 65536 (us.take (k + 1)) := by
          rw [hv, Nat.mul_add, Nat.pow_add, Nat.mul_assoc]
        rw [← ht', ev] at hup
        obtain ⟨X, hX⟩ : ∃ X, X = x * 2 ^ r := ⟨_, rfl⟩
        have hXb : X < 4294967296 := by
          rw [hX]
          have h2 : 2 ^ r ≤ 2 ^ 15 := Nat.pow_le_pow_right (by omega) (by omega)
          have := Nat.mul_le_mul (show x ≤ 65535 by omega) h2
          omega
        have eZ : X / 65536 = x / 2 ^ (16 - r) := by
          rw [hX, ← cut16 r hr16, Nat.mul_comm (2 ^ r)]
          exact Nat.mul_div_mul_right x (2 ^ (16 - r)) (Nat.pow_pos (by omega))
        rw [← hX] at hos
        rw [← hX, ← eZ] at hup
        obtain ⟨Y, hY⟩ : ∃ Y, Y = X % 65536 := ⟨_, rfl⟩
        obtain ⟨U, hU⟩ : ∃ U, U = t + Y := ⟨_, rfl⟩
        obtain ⟨Z, hZ⟩ : ∃ Z, Z = X / 65536 := ⟨_, rfl⟩
        rw [← hY, ← hU] at hos
        rw [← hY, ← hU, ← hZ] at hup
        have hZb : Z < 65536 := by omega
        have eX : IntKind.u32.wrap ((x : Int) * 2 ^ r) = (X : Int) := by
          rw [show ((x : Int) * 2 ^ r) = ((x * 2 ^ r : Nat) : Int) by simp, ← hX, IntKind.wrap_u32]; omega
        have eX2 : (x : Int) * 2 ^ r = (X : Int) := by rw [hX]; simp
        have eXm : (X : Int) % 4294967296 = (X : Int) := by omega
        have eY : IntKind.u16.wrap (X : Int) = (Y : Int) := by rw [IntKind.wrap_u16]; omega
        have eO := hos.1
        have eZi : (X : Int) / 65536 = (Z : Int) := by omega
        have eZw : IntKind.u16.wrap (Z : Int) = (Z : Int) := by rw [IntKind.wrap_u16]; omega
        have HUP := hid hup
        have HUb := hid hos.2
        have HZb := hid hZb
        have hn0 : (0 : Int) ≤ (r : Int) := by omega
        clear hx hv ht' htb h0 hup hos hX hZ hY hU hZb hc1 ev eZ hXb
        go_wp2_with fail
        refine ⟨⟨k + 1, (cu.set (q + k) U).set (q + k + 1) Z, by omega, rfl, ?_, ?_, hid ⟨by simpa using HC.out.1, (HC.out.2.1.set _ _ HUb.out).set _ _ HZb.out, HUP.out.1, fun j h1 h2 => ?_, fun t ht => ?_⟩⟩, by simp [intOf]; omega⟩
        · exact IRow.setv (IRow.setv hr (q + k) _ U rfl) (q + k + 1) _ Z rfl
        · exact grown_trans (grown_trans hgr (grown_setCell _ _ _)) (grown_setCell _ _ _)
        · rw [List.getElem?_set_ne (by omega), List.getElem?_set_ne (by omega)]
          exact HC.out.2.2.2.1 j (by omega) h2
        · rw [← Nat.add_assoc, List.getElem?_set_self (by simpa using hcl1)] at ht
          rw [← Option.some.inj ht]; exact HUP.out.2
      · obtain rfl : k = m := by omega
        have hcl : cu.length = q + k + 1 := HC.out.1
        have hrd := hr.rd0 (by omega)
        rw [hcl] at hrd
        have HR := hid (trim16 _ _ _ cu _ hrd)
        have hrd2 := hid (hrd.take (trimR cu).length (by rw [← hcl]; exact trimR_length_le cu))
        have e1 := HC.out.2.2.1
        rw [List.take_of_length_le (by rw [← HM.out]; exact Nat.le_refl _)] at e1
        have e2 : trimR cu = dg 65536 (V 65536 us * 2 ^ s) := by
          rw [trimR_dg (by omega) HC.out.2.1, e1, HSQ.out, Nat.pow_add, Nat.pow_mul]
          congr 1
          rw [show (2 : Nat) ^ 16 = 65536 from rfl, Nat.mul_comm (65536 ^ q), Nat.mul_assoc]
        have e3 : (trimR cu).length ≤ n + q + 1 := by
          have := trimR_length_le cu
          omega
        have HE := hid (And.intro e2 e3)
        clear hrd hcl e1 e2 e3
        go_wp2_with (go_at_call 178; (with_reducible refine (HR.out).mono ?_); rintro e w' ⟨rfl, rfl⟩)
        go_ret
        have hd := hrd2.out
        rw [← trimR_eq_take] at hd
        refine ⟨_, _, _, rfl, ?_, HE.out.2, grown_new hg1 hgr (fun g' e' => by cases e'; rw [HG.out]; exact Nat.le_refl _)⟩
        unfold IsC
        rw [← HE.out.1]
        exact hd

set_option maxHeartbeats 1000000 in
theorem shiftRight_n {w : World} {p : Option Addr} {n c N s : Nat} (hA : IsN w p n c N) (hn : n ≤ 400000) (hs : s ≤ 4000000000) :
    Calls Tryz.prog 194 #[.slice p n c, .int .i64 s] w fun e w' => ∃ p' n' c', e = .returned (.slice p' n' c') ∧ IsC w' p' n' c' (N / 2 ^ s) ∧ n' ≤ n ∧ w.grownBy w' none := by
  obtain ⟨L, h1, h2, rfl⟩ := hA
  have ht := h1.take (trimR L).length (by rw [← h1.len]; exact trimR_length_le L)
  rw [← trimR_eq_take] at ht
  have hcx := Can_trimR h2
  have hv := V_trimR (B := 65536) L
  have hl : (trimR L).length ≤ n := by rw [← h1.len]; exact trimR_length_le L
  have R1 := hid (trim16 p n c L w h1)
  rw [← hv]
  generalize trimR L = us at *
  clear hv h1 h2
  have hmax := ht.max
  have hcap := ht.cap
  obtain ⟨q, hq⟩ : ∃ q, q = s / 16 := ⟨_, rfl⟩
  obtain ⟨r, hr⟩ : ∃ r, r = s % 16 := ⟨_, rfl⟩
  obtain ⟨m, hm⟩ : ∃ m, m = us.length := ⟨_, rfl⟩
  have hr16 : r < 16 := by omega
  have hsq : s = 16 * q + r := by omega
  have hqi : (s : Int) / 16 = (q : Int) := by omega
  have hri : (s : Int) % 16 = (r : Int) := by omega
  rw [← hm] at R1 ht hl hcap
  have HM := hid hm
  have HSQ := hid hsq
  clear hq hr hsq hm
  by_cases h0 : m ≤ q
  · have h0' : (m : Int) ≤ (q : Int) := by omega
    have e0 : V 65536 us / 2 ^ s = 0 := by
      refine Nat.div_eq_of_lt (Nat.lt_of_lt_of_le hcx.1.lt ?_)
      rw [← HM.out, HSQ.out, show (65536 : Nat) = 2 ^ 16 from rfl, ← Nat.pow_mul]
      exact Nat.pow_le_pow_right (by omega) (by omega)
    rw [e0]
    clear e0
    go_enter Tryz.func194, Tryz.ntmps194
    go_wp2_with (go_at_call 178; (with_reducible refine (R1.out).mono ?_); rintro e w' ⟨rfl, rfl⟩)
    go_ret
    exact ⟨none, 0, 0, rfl, IsC.nil _, by omega, grown_refl _ _⟩
  · have h0' : ¬ (m : Int) ≤ (q : Int) := by omega
    obtain ⟨t, htm⟩ : ∃ t, m = q + t := ⟨m - q, by omega⟩
    subst htm
    have ht0 : 0 < t := by omega
    obtain ⟨b, o, rfl, _⟩ := ht.cel 0 (by rw [← HM.out]; omega)
    have hcut := ht.cut q (q + t) (c - q) (by omega) (by omega) (by omega) (by omega)
    rw [show q + t - q = t by omega, List.take_of_length_le (by rw [List.length_drop, ← HM.out]; omega)] at hcut
    have hcq : ¬ (c = q) := by omega
    have hlo : q + t - q = t := by omega
    obtain ⟨vs, hvs⟩ : ∃ vs, vs = us.drop q := ⟨_, rfl⟩
    rw [← hvs] at hcut
    have hvl : vs.length = t := hcut.len
    have HVL := hid hvl
    have hvd : Dg 65536 vs := by rw [hvs]; exact hcx.1.drop q
    have hvv : V 65536 us / 2 ^ s = V 65536 vs / 2 ^ r := by
      rw [hvs, V_drop_eq us hcx.1 q (by rw [← HM.out]; omega), Nat.div_div_eq_div_mul, HSQ.out, Nat.pow_add, show (65536 : Nat) = 2 ^ 16 from rfl, ← Nat.pow_mul]
    rw [hvv]
    clear hvs hvv hvl
    go_enter Tryz.func194, Tryz.ntmps194
    go_wp2_with (first
      | (go_at_call 178; (with_reducible refine (R1.out).mono ?_); rintro e w' ⟨rfl, rfl⟩)
      | (go_at_call 184; refine (clone_any _ _ _ vs _ hcut (by omega)).mono ?_; rintro e w1 ⟨rfl, hr1, hg1⟩))
    have HQ := hid hcq
    have HCUT := hid hcut
    obtain ⟨g, hg⟩ : ∃ g, g = w.heap.size := ⟨_, rfl⟩
    rw [← hg] at hr1 ⊢
    rw [← HVL.out] at ht0 ⊢
    have HG := hid hg
    clear hg R1 hcut
    obtain ⟨T, hT⟩ : ∃ T, T = vs.length := ⟨_, rfl⟩
    rw [← hT] at ht0 ⊢
    have HT := hid hT
    have hTn : T ≤ n := by rw [hT, HVL.out]; omega
    clear hT
    go_loopw [26] (fun i wr => ∃ k : Nat, ∃ cu : List Nat, k ≤ T ∧ i = .int .i64 k ∧ IRow wr g 112 .u16 cu ∧ w1.grownBy wr (some g) ∧
        Hid (cu.length = T ∧ (∀ j, j < k → cu[j]? = some (V 65536 vs / 2 ^ r / 65536 ^ j % 65536)) ∧ ∀ j, k ≤ j → cu[j]? = vs[j]?)) (fun i _ => T - (intOf i).toNat)
    case atStart => exact ⟨0, _, Nat.zero_le _, rfl, hr1, grown_refl _ _, hid ⟨HT.out.symm, fun j hj => by omega, fun j hj => rfl⟩⟩
    case round =>
      obtain ⟨k, cu, hk, rfl, hr, hgr, HC⟩ := hrel
      by_cases hlt : k < T
      · have hku : k < vs.length := by rw [← HT.out]; exact hlt
        have hcl : k < cu.length := by rw [HC.out.1]; exact hlt
        have hcc := hr.cell k hcl
        have hfr := hr.free k
        have hcx' : cu[k] = vs[k] := by
          have := HC.out.2.2 k (Nat.le_refl _)
          rw [List.getElem?_eq_getElem hcl, List.getElem?_eq_getElem hku] at this
          exact Option.some.inj this
        rw [hcx'] at hcc
        obtain ⟨x, hx⟩ : ∃ x, x = vs[k] := ⟨_, rfl⟩
        rw [← hx] at hcc
        have hxb : x < 65536 := by rw [hx]; exact hvd.get _ hku
        have hdk := V_drop_succ (B := 65536) vs k hku
        rw [← hx, V_drop_eq vs hvd k (by omega)] at hdk
        have hr0 : (0 : Int) ≤ (r : Int) := by omega
        have hpr : 0 < 2 ^ r := Nat.pow_pos (by omega)
        have hdig : ∀ D, (V 65536 vs / 65536 ^ k = D ∨ ∃ R, V 65536 vs / 65536 ^ k = D + 65536 * 65536 * R) → D / 2 ^ r % 65536 = V 65536 vs / 2 ^ r / 65536 ^ k % 65536 := fun D hD => by
          rw [Nat.div_div_eq_div_mul, Nat.mul_comm (2 ^ r), ← Nat.div_div_eq_div_mul]
          rcases hD with hD | ⟨R, hD⟩
          · rw [hD]
          · have e : 65536 * 65536 * R = 2 ^ r * (65536 * (2 ^ (16 - r) * R)) := by
              rw [show 2 ^ r * (65536 * (2 ^ (16 - r) * R)) = (2 ^ r * 2 ^ (16 - r)) * (65536 * R) by rw [Nat.mul_assoc, Nat.mul_left_comm 65536], cut16 r hr16, Nat.mul_assoc]
            rw [hD, e, Nat.add_mul_div_left _ _ hpr, Nat.add_mul_mod_self_left]
        have HDIG := hid hdig
        clear hdig hcx' hpr
        by_cases hlast : k + 1 < T
        · have hku1 : k + 1 < vs.length := by rw [← HT.out]; exact hlast
          have hcl1 : k + 1 < cu.length := by rw [HC.out.1]; exact hlast
          have hcc1 := hr.cell (k + 1) hcl1
          have hcx1 : cu[k + 1] = vs[k + 1] := by
            have := HC.out.2.2 (k + 1) (by omega)
            rw [List.getElem?_eq_getElem hcl1, List.getElem?_eq_getElem hku1] at this
            exact Option.some.inj this
          rw [hcx1] at hcc1
          obtain ⟨y, hy⟩ : ∃ y, y = vs[k + 1] := ⟨_, rfl⟩
          rw [← hy] at hcc1
          have hyb : y < 65536 := by rw [hy]; exact hvd.get _ hku1
          have hdk1 := V_drop_succ (B := 65536) vs (k + 1) hku1
          rw [← hy] at hdk1
          rw [hdk1] at hdk
          obtain ⟨D, hD⟩ : ∃ D, D = x + y * 65536 := ⟨_, rfl⟩
          obtain ⟨E, hE⟩ : ∃ E, E = D / 2 ^ r := ⟨_, rfl⟩
          obtain ⟨F, hF⟩ : ∃ F, F = E % 65536 := ⟨_, rfl⟩
          have eO : bits .or .u32 (x : Int) ((y : Int) * 65536) = (D : Int) := by
            rw [show ((y : Int) * 65536) = ((y * 65536 : Nat) : Int) by simp, u32_or_nat _ _ (by omega) (by omega), Nat.or_comm, nat_join 16 _ _ (by omega) (by omega), hD, Nat.add_comm]
          have eE : (D : Int) / 2 ^ r = (E : Int) := by rw [hE]; simp
          have eF : IntKind.u16.wrap (E : Int) = (F : Int) := by rw [IntKind.wrap_u16]; omega
          have hfd := HDIG.out D (.inr ⟨V 65536 (vs.drop (k + 1 + 1)), by rw [hdk, hD, Nat.mul_add, ← Nat.mul_assoc]; omega⟩)
          rw [← hE, ← hF] at hfd
          have HFD := hid hfd
          have hk1 : (k : Int) + 1 < (T : Int) := by omega
          clear hx hy hdk hdk1 hcx1 hD hE hF hfd
          go_wp2_with fail
          refine ⟨⟨k + 1, cu.set k F, by omega, rfl, IRow.setv hr k _ F rfl, grown_trans hgr (grown_setCell _ _ _), hid ⟨by simpa using HC.out.1, fun j hj => ?_, fun j hj => ?_⟩⟩, by simp [intOf]; omega⟩
          · by_cases hjk : j = k
            · subst hjk; rw [List.getElem?_set_self hcl, HFD.out]
            · rw [List.getElem?_set_ne (Ne.symm hjk)]; exact HC.out.2.1 j (by omega)
          · rw [List.getElem?_set_ne (by omega)]; exact HC.out.2.2 j (by omega)
        · have hdn : vs.drop (k + 1) = [] := List.drop_of_length_le (by rw [← HT.out]; omega)
          rw [hdn] at hdk
          obtain ⟨E, hE⟩ : ∃ E, E = x / 2 ^ r := ⟨_, rfl⟩
          obtain ⟨F, hF⟩ : ∃ F, F = E % 65536 := ⟨_, rfl⟩
          have eE : (x : Int) / 2 ^ r = (E : Int) := by rw [hE]; simp
          have eF : IntKind.u16.wrap (E : Int) = (F : Int) := by rw [IntKind.wrap_u16]; omega
          have hfd := HDIG.out x (.inl (by rw [hdk]; simp))
          rw [← hE, ← hF] at hfd
          have HFD := hid hfd
          have hk1 : ¬ (k : Int) + 1 < (T : Int) := by omega
          clear hx hdk hdn hE hF hfd
          go_wp2_with fail
          refine ⟨⟨k + 1, cu.set k F, by omega, rfl, IRow.setv hr k _ F rfl, grown_trans hgr (grown_setCell _ _ _), hid ⟨by simpa using HC.out.1, fun j hj => ?_, fun j hj => ?_⟩⟩, by simp [intOf]; omega⟩
          · by_cases hjk : j = k
            · subst hjk; rw [List.getElem?_set_self hcl, HFD.out]
            · rw [List.getElem?_set_ne (Ne.symm hjk)]; exact HC.out.2.1 j (by omega)
          · rw [List.getElem?_set_ne (by omega)]; exact HC.out.2.2 j (by omega)
      · obtain rfl : k = T := by omega
        have hcl : cu.length = k := HC.out.1
        have hcd : Nm.Dg 65536 cu ∧ V 65536 cu = V 65536 vs / 2 ^ r := by
          have e : cu = tab k fun i => V 65536 vs / 2 ^ r / 65536 ^ i % 65536 := by
            apply List.ext_getElem (by simp [HC.out.1])
            intro j h1 h2
            have := HC.out.2.1 j (by rw [HC.out.1] at h1; exact h1)
            rw [List.getElem?_eq_getElem h1] at this
            simp only [Option.some.injEq] at this
            rw [this, tab_get]
          constructor
          · rw [e]; intro x hx
            obtain ⟨i, _, rfl⟩ := List.mem_map.1 hx
            exact Nat.mod_lt _ (by decide)
          · rw [e, V_tab_digits]
            have hb := hvd.lt
            rw [← HT.out] at hb
            exact Nat.mod_eq_of_lt (Nat.lt_of_le_of_lt (Nat.div_le_self _ _) hb)
        have hrd := hr.rd0 (by omega)
        rw [hcl] at hrd
        have HR := hid (trim16 _ _ _ cu _ hrd)
        have hrd2 := hid (hrd.take (trimR cu).length (by rw [← hcl]; exact trimR_length_le cu))
        have e2 : trimR cu = dg 65536 (V 65536 vs / 2 ^ r) := by
          rw [trimR_dg (by omega) hcd.1, hcd.2]
        have e3 : (trimR cu).length ≤ n := by
          have := trimR_length_le cu
          omega
        have HE := hid (And.intro e2 e3)
        clear hrd hcl e2 e3 hcd
        go_wp2_with (go_at_call 178; (with_reducible refine (HR.out).mono ?_); rintro e w' ⟨rfl, rfl⟩)
        go_ret
        have hd := hrd2.out
        rw [← trimR_eq_take] at hd
        refine ⟨_, _, _, rfl, ?_, HE.out.2, grown_new hg1 hgr (fun g' e' => by cases e'; rw [HG.out]; exact Nat.le_refl _)⟩
        unfold IsC
        rw [← HE.out.1]
        exact hd
end Go.Proofs.YtgbfjneoieadmaaGreatDoor

set_option linter.unusedVariables false
namespace Nm
/-- what is known of the root when it has k + 1 bits -/
structure RInv (N half k A : Nat) : Prop where
  lo : (A - 1) * (A - 1) < N / 2 ^ (2 * half - 2 * k)
  hi : N / 2 ^ (2 * half - 2 * k) < (A + 1) * (A + 1)
  one : 1 ≤ A

theorem RInv.start {N half : Nat} (h1 : 2 ^ (2 * half) ≤ N) (h2 : N < 2 ^ (2 * half + 2)) : RInv N half 0 1 := by
  have hp : 0 < 2 ^ (2 * half) := Nat.pow_pos (by omega)
  have a : 1 ≤ N / 2 ^ (2 * half) := (Nat.le_div_iff_mul_le hp).2 (by omega)
  have b : N / 2 ^ (2 * half) < 4 := Nat.div_lt_of_lt_mul (by rw [Nat.pow_add] at h2; omega)
  refine ⟨?_, ?_, Nat.le_refl _⟩
  · simp; omega
  · simp; omega

theorem RInv.pow_le {N half k A : Nat} (h : RInv N half k A) (hN : 2 ^ (2 * half) ≤ N) (hk : k ≤ half) : 2 ^ k ≤ A := by
  refine Nat.le_of_not_lt fun hlt => ?_
  have h1 : (A + 1) * (A + 1) ≤ 2 ^ k * 2 ^ k := Nat.mul_le_mul hlt hlt
  have h2 : 2 ^ k * 2 ^ k ≤ N / 2 ^ (2 * half - 2 * k) := by
    refine (Nat.le_div_iff_mul_le (Nat.pow_pos (by omega))).2 ?_
    rw [← Nat.pow_add, ← Nat.pow_add, show k + k + (2 * half - 2 * k) = 2 * half by omega]; exact hN
  have := h.hi
  omega

theorem RInv.next {N half k j A B : Nat} (h : RInv N half k A) (hN : 2 ^ (2 * half) ≤ N) (hkj : k < j) (hj : j ≤ half) (hj2 : j ≤ 2 * k + 1) (hB : B = A * 2 ^ (j - k - 1) + N / 2 ^ (2 * half - k - j + 1) / A) : RInv N half j B := by
  have hp := h.pow_le hN (by omega)
  have e1 : N / 2 ^ (2 * half - 2 * k) = N / 2 ^ (2 * half - 2 * j) / (2 ^ (j - k) * 2 ^ (j - k)) := by
    rw [Nat.div_div_eq_div_mul, ← Nat.pow_add, ← Nat.pow_add]; congr 2; omega
  have e2 : N / 2 ^ (2 * half - k - j + 1) = N / 2 ^ (2 * half - 2 * j) / (2 * 2 ^ (j - k)) := by
    rw [Nat.div_div_eq_div_mul, ← Nat.pow_succ', ← Nat.pow_add]; congr 2; omega
  have h1 := h.lo
  have h2 := h.hi
  rw [e2] at hB
  have hap : 2 ^ (j - k) ≤ 2 * A := by
    have : 2 ^ (j - k) ≤ 2 ^ (k + 1) := Nat.pow_le_pow_right (by omega) (by omega)
    rw [Nat.pow_succ] at this; omega
  obtain ⟨r1, r2, r3⟩ := newton A (j - k) (N / 2 ^ (2 * half - 2 * j)) (N / 2 ^ (2 * half - 2 * k)) (2 ^ (j - k)) rfl (by omega) h1 h2 h.one e1 hap B hB
  exact ⟨r1, r2, r3⟩

theorem RInv.done {N half A : Nat} (h : RInv N half half A) : (A - 1) * (A - 1) < N ∧ N < (A + 1) * (A + 1) := by
  have h1 := h.lo
  have h2 := h.hi
  rw [Nat.sub_self, Nat.pow_zero, Nat.div_one] at h1 h2
  exact ⟨h1, h2⟩

theorem RInv.le {N half k A : Nat} (h : RInv N half k A) (hN : 1 ≤ N) : A ≤ N := by
  have h1 := h.lo
  have h2 : N / 2 ^ (2 * half - 2 * k) ≤ N := Nat.div_le_self _ _
  rcases Nat.lt_or_ge A 2 with h3 | h3
  · omega
  · have := Nat.mul_le_mul_left (A - 1) (show 1 ≤ A - 1 by omega)
    omega

/-- the whole root of a number is unique -/
theorem root_unique {N a b : Nat} (h1 : a * a ≤ N) (h2 : N < (a + 1) * (a + 1)) (k1 : b * b ≤ N) (k2 : N < (b + 1) * (b + 1)) : a = b := by
  rcases Nat.lt_trichotomy a b with h | h | h
  · have := Nat.mul_le_mul (show a + 1 ≤ b from h) (show a + 1 ≤ b from h); omega
  · exact h
  · have := Nat.mul_le_mul (show b + 1 ≤ a from h) (show b + 1 ≤ a from h); omega
end Nm

set_option linter.unusedVariables false
set_option linter.unusedSimpArgs false
namespace Go.Proofs.YtgbfjneoieadmaaGreatDoor
open Go.RowKit Nm

theorem len_any (x : Nat) (hx : x < W64) (w : World) :
    Calls Tryz.prog 193 #[.int .u64 x] w fun e w' => ∃ l : Nat, l ≤ 64 ∧ e = .returned (.int .i64 l) ∧ Hid (l = Lib.bitLen x) ∧ w = w' := by
  go_enter Tryz.func193, Tryz.ntmps193
  go_wp2_with (go_at_call 177; refine (len64_any x hx _).mono ?_; rintro e w' ⟨l, hl, HL, rfl, rfl⟩)
  go_ret
  exact ⟨l, hl, rfl, HL, rfl⟩

/-- what Sqrt returns -/
def RtPost (w : World) (N n : Nat) (e : Ending) (w' : World) : Prop :=
  ∃ (R : Nat) (p1 : Option Addr) (n1 c1 : Nat) (p2 : Option Addr) (n2 c2 : Nat), e = .returned (.tuple #[.slice p1 n1 c1, .slice p2 n2 c2]) ∧ R * R ≤ N ∧ N < (R + 1) * (R + 1) ∧ IsC w' p1 n1 c1 R ∧ IsC w' p2 n2 c2 (N - R * R) ∧ n1 ≤ n + 1 ∧ n2 ≤ n ∧ w.grownBy w' none

set_option maxHeartbeats 2000000 in
theorem natSqrt_n {w : World} {p : Option Addr} {n c N : Nat} (hA : IsN w p n c N) (hn : n ≤ 100000) :
    Calls Tryz.prog 170 #[.slice p n c] w (RtPost w N n) := by
  have hNlt := hA.lt
  obtain ⟨L, h1, h2, rfl⟩ := hA
  have ht := h1.take (trimR L).length (by rw [← h1.len]; exact trimR_length_le L)
  rw [← trimR_eq_take] at ht
  have hcx := Can_trimR h2
  have hv := V_trimR (B := 65536) L
  have hl : (trimR L).length ≤ n := by rw [← h1.len]; exact trimR_length_le L
  have R1 := hid (trim16 p n c L w h1)
  rw [← hv] at hNlt ⊢
  generalize trimR L = us at *
  clear hv h1 h2
  have hU : IsN w p us.length c (V 65536 us) := ⟨us, ht, hcx.1, rfl⟩
  by_cases h0 : us.length = 0
  · have hus : us = [] := List.eq_nil_of_length_eq_zero h0
    rw [h0] at R1
    subst hus
    clear h0 hU
    go_enter Tryz.func170, Tryz.ntmps170
    go_wp2_with (go_at_call 178; (with_reducible refine (R1.out).mono ?_); rintro e w' ⟨rfl, rfl⟩)
    go_ret2
    exact ⟨0, none, 0, 0, none, 0, 0, rfl, by simp, by simp, IsC.nil _, IsC.nil _, by omega, by omega, grown_refl _ _⟩
  · have hNpos : 1 ≤ V 65536 us := hcx.pos (by omega) (by intro e; subst e; simp at h0)
    obtain ⟨m, hm⟩ : ∃ m, m = us.length := ⟨_, rfl⟩
    rw [← hm] at R1 hl h0 hU
    have hU0 := hU.lt
    have e0 : (((m : Int) == 0) = false) := beq_eq_false_iff_ne.2 (by omega)
    clear hm ht hcx
    generalize V 65536 us = N at *
    have HB := hid (natBits_n hU (by omega))
    have HNP := hid hNpos
    have HNL := hid hNlt
    clear hNlt hU0 hNpos
    go_enter Tryz.func170, Tryz.ntmps170
    go_wp2_with (first
      | (go_at_call 178; (with_reducible refine (R1.out).mono ?_); rintro e w' ⟨rfl, rfl⟩))
    refine HB.out.mono ?_
    rintro e w' ⟨b, hb, rfl, HBB, rfl⟩
    have hbits : 1 ≤ b ∧ 2 ^ (b - 1) ≤ N ∧ N < 2 ^ b := by
      rcases HBB.out with ⟨h1, _⟩ | h1
      · have := HNP.out; omega
      · exact h1
    obtain ⟨half, hh⟩ : ∃ half, half = (b - 1) / 2 := ⟨_, rfl⟩
    have hhi : ((b : Int) - 1) / 2 = (half : Int) := by omega
    have hhb : half ≤ 800000 := by omega
    have hlo : 2 ^ (2 * half) ≤ N := Nat.le_trans (Nat.pow_le_pow_right (by omega) (by omega)) hbits.2.1
    have hhi2 : N < 2 ^ (2 * half + 2) := Nat.lt_of_lt_of_le hbits.2.2 (Nat.pow_le_pow_right (by omega) (by omega))
    have HST := hid (RInv.start hlo hhi2)
    have HLO := hid hlo
    have hb0 : (0 : Int) ≤ (b : Int) - 1 := by omega
    clear hbits hh hlo hhi2 HBB
    go_wp2_with fail
    refine (of_at _ 1 rfl (by decide) _).mono ?_
    rintro e w1 ⟨po, co, rfl, hr1, hg1⟩
    have hone : IsC w1 po (dg 65536 1).length co 1 := hr1
    have hno : (dg 65536 1).length ≤ 1 := dg_length_le (by omega) (by omega)
    generalize (dg 65536 1).length = no at *
    have hhalf : half < W64 := by unfold W64; omega
    go_wp2_with fail
    refine (len_any half hhalf _).mono ?_
    rintro e w' ⟨l, hl64, rfl, HL, rfl⟩
    have hsp := bitLen_spec half hhalf
    rw [← HL.out] at hsp
    have HSP := hid hsp
    have hU1 := hU.keep hg1
    clear hsp hr1 HL hhi
    go_wp2_with fail
    go_loopw [2, 6, 7] (fun s2 s6 s7 wr => ∃ (L K A : Nat) (pa : Option Addr) (na ca : Nat), L ≤ l ∧ s7 = .int .i64 ((L : Int) - 1) ∧ s6 = .int .i64 K ∧ s2 = .slice pa na ca ∧ IsC wr pa na ca A ∧ w1.grownBy wr none ∧ K ≤ half ∧ Hid (K = half / 2 ^ L ∧ RInv N half K A)) (fun _ _ s7 _ => (intOf s7 + 1).toNat)
    case atStart =>
      have e : half / 2 ^ l = 0 := by
        rcases HSP.out with ⟨h, _⟩ | h
        · rw [h]; simp
        · exact Nat.div_eq_of_lt h.2.2
      exact ⟨l, 0, 1, po, no, co, Nat.le_refl _, rfl, rfl, rfl, hone, grown_refl _ _, by omega, hid ⟨e.symm, HST.out⟩⟩
    case round =>
      obtain ⟨Lv, K, A, pa, na, ca, hLl, rfl, rfl, rfl, hA, hgr, hKh, HR⟩ := hrel
      have hna : na ≤ n := hA.len_le (Nat.lt_of_le_of_lt (HR.out.2.le HNP.out) HNL.out)
      by_cases hL0 : 0 < Lv
      · obtain ⟨i, rfl⟩ : ∃ i, Lv = i + 1 := ⟨Lv - 1, by omega⟩
        obtain ⟨J, hJ⟩ : ∃ J, J = half / 2 ^ i := ⟨_, rfl⟩
        have hKJ : K = J / 2 := by rw [HR.out.1, hJ, Nat.pow_succ, Nat.div_div_eq_div_mul]
        have hJ1 : 1 ≤ J := by
          rw [hJ]
          rcases HSP.out with ⟨h, h2⟩ | h
          · omega
          · exact (Nat.le_div_iff_mul_le (Nat.pow_pos (by omega))).2 (by
              rw [Nat.one_mul]
              exact Nat.le_trans (Nat.pow_le_pow_right (by omega) (by omega)) h.2.1)
        have hJh : J ≤ half := by rw [hJ]; exact Nat.div_le_self _ _
        have hKlt : K < J := by omega
        have hJ2 : J ≤ 2 * K + 1 := by omega
        obtain ⟨S1, hS1⟩ : ∃ S1, S1 = 2 * half - K - J + 1 := ⟨_, rfl⟩
        obtain ⟨S2, hS2⟩ : ∃ S2, S2 = J - K - 1 := ⟨_, rfl⟩
        obtain ⟨B, hB⟩ : ∃ B, B = A * 2 ^ (J - K - 1) + N / 2 ^ (2 * half - K - J + 1) / A := ⟨_, rfl⟩
        have HNX := hid (HR.out.2.next HLO.out hKlt hJh hJ2 hB)
        rw [← hS1, ← hS2] at hB
        have hS1b : S1 ≤ 2000000 := by omega
        have hS2b : S2 ≤ 1000000 := by omega
        have e1 : 2 * (half : Int) - (K : Int) - (J : Int) + 1 = (S1 : Int) := by omega
        have e2 : (J : Int) - (K : Int) - 1 = (S2 : Int) := by omega
        have hUr := hU1.keep hgr
        have hApos : 0 < A := HR.out.2.one
        have HB := hid hB
        have HJ := hid hJ
        have eJ : (half : Int) / 2 ^ i = (J : Int) := by rw [hJ]; simp
        clear hS1 hS2 hB hJ hKJ
        go_wp2_with fail
        refine (shiftRight_n (s := S1) hUr (by omega) (by omega)).mono ?_
        rintro e w2 ⟨p2, n2, c2, rfl, hQ, hn2, hg2⟩
        replace hA := hA.keep hg2
        go_wp2_with fail
        refine (natDivMod_n hQ.isN hA.isN (by omega) (by omega) hApos).mono ?_
        rintro e w3 ⟨p3, n3, c3, p4, n4, c4, rfl, hq3, hq4, hn3, hn4, hn4', hg3⟩
        replace hA := hA.keep hg3
        go_wp2_with fail
        refine (shiftLeft_n (s := S2) hA.isN (by omega) (by omega)).mono ?_
        rintro e w4 ⟨p5, n5, c5, rfl, hq5, hn5, hg4⟩
        replace hq3 := hq3.keep hg4
        go_wp2_with fail
        refine (natAdd_n hq5.isN hq3.isN (by omega) (by omega)).mono ?_
        rintro e w5 ⟨p6, n6, c6, rfl, hq6, hn6, hg5⟩
        go_wp2_with fail
        exact ⟨⟨i, J, B, p6, n6, c6, by omega, by congr 1, rfl, rfl, hq6.congr HB.out.symm, grown_trans hgr (grown_trans hg2 (grown_trans hg3 (grown_trans hg4 hg5))), hJh, hid ⟨HJ.out, HNX.out⟩⟩, by simp [intOf]⟩
      · obtain rfl : Lv = 0 := by omega
        have hKe : K = half := by rw [HR.out.1]; simp
        have hR := HR.out.2
        rw [hKe] at hR
        have hD := hR.done
        have hA1 := hR.one
        have hUr := hU1.keep hgr
        have hOr := hone.keep hgr
        clear hKe hR
        have hAA : A * A < 65536 ^ (n + n + 1) := by
          have h1 : A ≤ N := HR.out.2.le HNP.out
          have h2 := Nat.mul_lt_mul'' (Nat.lt_of_le_of_lt h1 HNL.out) (Nat.lt_of_le_of_lt h1 HNL.out)
          rw [← Nat.pow_add] at h2
          exact Nat.lt_of_lt_of_le h2 (Nat.pow_le_pow_right (by omega) (by omega))
        have HAA := hid hAA
        have HD := hid hD
        clear hAA hD
        go_wp2_with fail
        refine (natMul_n hA.isN hA.isN (by omega) (by omega)).mono ?_
        rintro e w2 ⟨p2, n2, c2, rfl, hq2, hn2, hg2⟩
        replace hA := hA.keep hg2
        replace hUr := hUr.keep hg2
        replace hOr := hOr.keep hg2
        by_cases hle : A * A ≤ N
        · have HLE := hid hle
          go_wp2_with fail
          refine (natSub_n hUr hq2.isN (by omega) (by omega) hle).mono ?_
          clear hle
          rintro e w3 ⟨p3, n3, c3, rfl, hq3, hn3, hg3⟩
          go_wp2_with fail
          go_ret2
          exact ⟨A, pa, na, ca, p3, n3, c3, rfl, HLE.out, HD.out.2, hA.keep hg3, hq3, by omega, by omega, grown_trans hg1 (grown_trans hgr (grown_trans hg2 hg3))⟩
        · have HLT : Hid (N < A * A) := hid (by omega)
          clear hle
          obtain ⟨C, rfl⟩ : ∃ C, A = C + 1 := ⟨A - 1, by omega⟩
          have HC : Hid (C * C < N ∧ C + 1 - 1 = C) := hid ⟨by have := HD.out.1; simpa using this, by omega⟩
          go_wp2_with fail
          refine (natSub_e hUr hq2.isN HLT.out).mono ?_
          rintro e w3 ⟨rfl, hg3⟩
          replace hA := hA.keep hg3
          replace hUr := hUr.keep hg3
          replace hOr := hOr.keep hg3
          go_wp2_with fail
          refine (natSub_n hA.isN hOr.isN (by omega) (by omega) (by omega)).mono ?_
          rintro e w4 ⟨p4, n4, c4, rfl, hq4, hn4, hg4⟩
          replace hq4 := hq4.congr HC.out.2
          replace hUr := hUr.keep hg4
          go_wp2_with fail
          refine (natMul_n hq4.isN hq4.isN (by omega) (by omega)).mono ?_
          rintro e w5 ⟨p5, n5, c5, rfl, hq5, hn5, hg5⟩
          replace hq4 := hq4.keep hg5
          replace hUr := hUr.keep hg5
          go_wp2_with fail
          refine (natSub_n hUr hq5.isN (by omega) (by omega) (Nat.le_of_lt HC.out.1)).mono ?_
          rintro e w6 ⟨p6, n6, c6, rfl, hq6, hn6, hg6⟩
          go_wp2_with fail
          go_ret2
          exact ⟨C, p4, n4, c4, p6, n6, c6, rfl, Nat.le_of_lt HC.out.1, HLT.out, hq4.keep hg6, hq6, by omega, by omega, grown_trans hg1 (grown_trans hgr (grown_trans hg2 (grown_trans hg3 (grown_trans hg4 (grown_trans hg5 hg6)))))⟩
end Go.Proofs.YtgbfjneoieadmaaGreatDoor
