/-
  IntE FormsV RatA RatB RatC RatE RatV RatL RatM RatO IntRB RatD RatK Open IntOpen RatOpen Tied RatP, in one text.
-/
import Derived.Test.YthkgldpcgmnaiaaDoorIntD
import Derived.Test.YthkgldpcgmnaiaaDoorIntR
import Derived.Test.YthkgldpcgmnaiaaDoorMrQ
import Derived.Test.YthkgldpcgmnaiaaDoorForms
import Derived.Test.YthkgldpcgmnaiaaDoorIntN
import Derived.Test.YthkgldpcgmnaiaaDoorIntOf
import Derived.Deep.RegionHeld3
import Derived.Deep.DeepCutAuto
import Derived.Test.YthkgldpcgmnaiaaDoorIntC
import Derived.Test.YthkgldpcgmnaiaaDoorIntA
import Derived.Test.YthkgldpcgmnaiaaDoorRows
import Derived.Test.YthkgldpcgmnaiaaDoorMem
import Derived.Test.YthkgldpcgmnaiaaDoorDig
import Derived.WalkKit
import Derived.ProofKit
import Derived.OpenShut
import Derived.Test.YthkgldpcgmnaiaaDoorTie
import Derived.Test.YthkgldpcgmnaiaaDoorCards
import Derived.LaidMore
import Derived.Lib.LaidTab
import Derived.Stop.Joined
import Derived.SevenTiedAt

set_option linter.unusedVariables false
set_option linter.unusedSimpArgs false
namespace Go.Proofs.YthkgldpcgmnaiaaDoor
open Go.RowKit Nm


/-- what a division by 0 returns -/
def DmIE (w : World) (e : Ending) (w' : World) : Prop := e = .returned (.tuple #[.agg #[.bool false, .slice none 0 0], .agg #[.bool false, .slice none 0 0], .int .i64 3]) ∧ w.grownBy w' none
theorem DmIE.close {w W w5 : World} {G G2 : Nat} (hg3 : w.grownBy W none) (hG : w.heap.size ≤ G) (hG2 : w.heap.size ≤ G2) (hg35 : W.grownBy w5 none) (a b c d : Value) :
    DmIE w (.returned (.tuple #[.agg #[.bool false, .slice none 0 0], .agg #[.bool false, .slice none 0 0], .int .i64 3])) ((((w5.setCell ⟨G, 0, none⟩ a).setCell ⟨G, 1, none⟩ b).setCell ⟨G2, 0, none⟩ c).setCell ⟨G2, 1, none⟩ d) := by
  have h := grown_trans hg3 hg35
  have h1 : w.grownBy ((w5.setCell ⟨G, 0, none⟩ a).setCell ⟨G, 1, none⟩ b) none := grown_new h (grown_trans (grown_setCell w5 ⟨G, 0, none⟩ a) (grown_setCell _ ⟨G, 1, none⟩ b)) (fun g e => by cases e; exact hG)
  exact ⟨rfl, grown_new h1 (grown_trans (grown_setCell _ ⟨G2, 0, none⟩ c) (grown_setCell _ ⟨G2, 1, none⟩ d)) (fun g e => by cases e; exact hG2)⟩
end Go.Proofs.YthkgldpcgmnaiaaDoor

set_option linter.unusedVariables false
set_option linter.unusedSimpArgs false
namespace Go.Proofs.YthkgldpcgmnaiaaDoor
open Go.RowKit Nm


set_option maxHeartbeats 1000000 in
theorem natUint_any (a : Option Addr) (n c : Nat) (xs : List Nat) (w : World) (h : IRd w .u16 a n c xs) (hd : Dg 65536 xs) :
    Calls Tryd.prog 73 #[.slice a n c] w fun e w' => e = .returned (.tuple #[.int .u64 (if (trimR xs).length ≤ 4 then V 65536 xs else 0 : Nat), .bool (decide ((trimR xs).length ≤ 4))]) ∧ w = w' := by
  have hl : (trimR xs).length ≤ n := by rw [← h.len]; exact trimR_length_le xs
  have ht := h.take (trimR xs).length hl
  rw [← trimR_eq_take] at ht
  have R1 := hid (trim16 a n c xs w h)
  have hcx := Can_trimR hd
  have hv := V_trimR (B := 65536) xs
  rw [← hv]
  clear hv
  generalize trimR xs = us at *
  clear h
  by_cases h4 : us.length ≤ 4
  · rw [if_pos h4, decide_eq_true h4]
    have hw := hid (word_any a us.length c us w ht hcx.1 h4)
    generalize V 65536 us = x at *
    have h4' : ¬ ((4 : Int) < (us.length : Int)) := by omega
    go_enter Tryd.func73, Tryd.ntmps73
    go_wp2_with (first
      | (go_at_call 61; refine R1.out.mono ?_; rintro e w' ⟨rfl, rfl⟩)
      | (go_at_call 65; refine hw.out.mono ?_; rintro e w' ⟨rfl, rfl⟩))
    go_ret2
    exact ⟨rfl, rfl⟩
  · rw [if_neg h4, decide_eq_false h4]
    have h4' : ((4 : Int) < (us.length : Int)) := by omega
    go_enter Tryd.func73, Tryd.ntmps73
    go_wp2_with (go_at_call 61; refine R1.out.mono ?_; rintro e w' ⟨rfl, rfl⟩)
    go_ret2
    exact ⟨rfl, rfl⟩

end Go.Proofs.YthkgldpcgmnaiaaDoor

set_option linter.unusedVariables false
set_option linter.unusedSimpArgs false
namespace Go.Proofs.YthkgldpcgmnaiaaDoor
open Go.RowKit Nm

/-- numerator and denominator in lowest terms of N / D -/
def rn (N : Int) (D : Nat) : Int := sg (decide (N < 0)) (N.natAbs / Nat.gcd N.natAbs D)
def rd (N : Int) (D : Nat) : Nat := D / Nat.gcd N.natAbs D

theorem one_word {xs : List Nat} (hd : Dg 65536 xs) (h : V 65536 xs = 1) : (trimR xs).length = 1 := by
  rw [trimR_dg (by omega) hd, h, dg_step 1 (by omega)]
  simp [dg_zero]

theorem sizeOf_any {w : World} {p : Option Addr} {n c N : Nat} (h : IsN w p n c N) :
    Calls Tryd.prog 59 #[.slice p n c] w fun e w' => ∃ (x : Nat) (b : Bool), e = .returned (.agg #[.int .u64 x, .bool b]) ∧ (N = 1 → x = 1 ∧ b = true) ∧ (N ≠ 1 → ¬ (x = 1 ∧ b = true)) ∧ w.grownBy w' none := by
  obtain ⟨L, h1, h2, rfl⟩ := h
  have hgb := World.grownBy_alloc w (.cells #[.int .u64 0, .bool false] 74) none
  have HU := hid (natUint_any p n c L _ (h1.keep hgb) h2)
  have E1 : V 65536 L = 1 → (if (trimR L).length ≤ 4 then V 65536 L else 0) = 1 ∧ decide ((trimR L).length ≤ 4) = true := by
    intro e
    have := one_word h2 e
    rw [if_pos (by omega)]
    exact ⟨e, decide_eq_true (by omega)⟩
  have E2 : V 65536 L ≠ 1 → ¬ ((if (trimR L).length ≤ 4 then V 65536 L else 0) = 1 ∧ decide ((trimR L).length ≤ 4) = true) := by
    rintro e ⟨h3, h4⟩
    rw [if_pos (of_decide_eq_true h4)] at h3
    exact e h3
  generalize (if (trimR L).length ≤ 4 then V 65536 L else 0) = x at *
  generalize decide ((trimR L).length ≤ 4) = b at *
  replace E1 := hid E1
  replace E2 := hid E2
  clear h1 h2
  go_enter Tryd.func59, Tryd.ntmps59
  go_wp2_with (go_at_call 73; (with_reducible refine HU.out.mono ?_); rintro e w' ⟨rfl, rfl⟩)
  exact bodyPost_ret (v := .agg #[.int .u64 x, .bool b]) (by simp [results, Tryd.results59, go_sem]) rfl ⟨x, b, rfl, E1.out, E2.out, World.grownBy_alloc w _ none⟩

theorem isOne_any {w : World} {p : Option Addr} {n c N : Nat} (h : IsN w p n c N) :
    Calls Tryd.prog 43 #[.slice p n c] w fun e w' => e = .returned (.bool (decide (N = 1))) ∧ w.grownBy w' none := by
  have HU := hid (sizeOf_any h)
  by_cases e : N = 1
  · rw [decide_eq_true e]
    go_enter Tryd.func43, Tryd.ntmps43
    go_wp2_with (go_at_call 59; (with_reducible refine HU.out.mono ?_); rintro ee w' ⟨x, b, rfl, h1, h2, hg⟩; obtain ⟨rfl, rfl⟩ := h1 e; clear h1 h2)
    go_ret
    exact ⟨rfl, hg⟩
  · rw [decide_eq_false e]
    go_enter Tryd.func43, Tryd.ntmps43
    go_wp2_with (go_at_call 59; (with_reducible refine HU.out.mono ?_); rintro ee w' ⟨x, b, rfl, h1, h2, hg⟩; replace h2 := h2 e; clear h1)
    all_goals
      first
        | (go_ret; exact ⟨rfl, hg⟩)
        | (rename_i h4 h3; exact absurd ⟨by omega, by simpa using h4⟩ h2)
        | (rename_i h3 h4; exact absurd ⟨by omega, by simpa using h4⟩ h2)
end Go.Proofs.YthkgldpcgmnaiaaDoor

set_option linter.unusedVariables false
set_option linter.unusedSimpArgs false
namespace Go.Proofs.YthkgldpcgmnaiaaDoor
open Go.RowKit Nm

theorem three_cells (x : Bool) (y z : Option Addr) (a b c d j : Nat) (k : IntKind) (t : Int) : (#[Value.bool x, Value.slice y a b, Value.slice z c d])[j]? ≠ some (.int k t) := by
  match j with
  | 0 => simp
  | 1 => simp
  | 2 => simp
  | j + 3 => simp
theorem set3_grown (w : World) (G : Nat) (a b c : Value) : w.grownBy (((w.setCell ⟨G, 0, none⟩ a).setCell ⟨G, 1, none⟩ b).setCell ⟨G, 2, none⟩ c) (some G) :=
  grown_trans (grown_trans (grown_setCell w ⟨G, 0, none⟩ a) (grown_setCell _ ⟨G, 1, none⟩ b)) (grown_setCell _ ⟨G, 2, none⟩ c)
theorem IsC.other3 {w w' : World} {p : Option Addr} {n c N G : Nat} {x : Bool} {y z : Option Addr} {a b e f : Nat} {T : TypeId} (h : IsC w p n c N) (hb : w.heap[G]? = some (.cells #[.bool x, .slice y a b, .slice z e f] T (0, 0))) (hg : w.grownBy w' (some G)) : IsC w' p n c N :=
  IRd.other h hb (fun j t => three_cells x y z a b e f j _ t) hg
theorem IsN.other2 {w w' : World} {p : Option Addr} {n c N G : Nat} {x : Bool} {y : Option Addr} {a b : Nat} {T : TypeId} (h : IsN w p n c N) (hb : w.heap[G]? = some (.cells #[.bool x, .slice y a b] T (0, 0))) (hg : w.grownBy w' (some G)) : IsN w' p n c N :=
  let ⟨L, h1, h2⟩ := h; ⟨L, IRd.other h1 hb (fun j t => two_cells x y a b j _ t) hg, h2⟩
theorem IsC.other2 {w w' : World} {p : Option Addr} {n c N G : Nat} {x : Bool} {y : Option Addr} {a b : Nat} {T : TypeId} (h : IsC w p n c N) (hb : w.heap[G]? = some (.cells #[.bool x, .slice y a b] T (0, 0))) (hg : w.grownBy w' (some G)) : IsC w' p n c N :=
  IRd.other h hb (fun j t => two_cells x y a b j _ t) hg
theorem IsZ.other2 {w w' : World} {g : Bool} {p : Option Addr} {n c G : Nat} {Z : Int} {x : Bool} {y : Option Addr} {a b : Nat} {T : TypeId} (h : IsZ w g p n c Z) (hb : w.heap[G]? = some (.cells #[.bool x, .slice y a b] T (0, 0))) (hg : w.grownBy w' (some G)) : IsZ w' g p n c Z :=
  ⟨h.1.other2 hb hg, h.2⟩

theorem ratbox_facts {w : World} {G : Nat} {x : Bool} {y z : Option Addr} {a b e f : Nat} {T : TypeId} (hb : w.heap[G]? = some (.cells #[.bool x, .slice y a b, .slice z e f] T (0, 0))) :
    w.cell? ⟨G, 0, none⟩ = some (.bool x) ∧ w.cell? ⟨G, 1, none⟩ = some (.slice y a b) ∧ w.cell? ⟨G, 2, none⟩ = some (.slice z e f) ∧ w.frozen? ⟨G, 0, none⟩ = false ∧ w.frozen? ⟨G, 1, none⟩ = false ∧ w.frozen? ⟨G, 2, none⟩ = false := by
  have k0 := cell_of_row w G 0 _ _ _ hb
  have k1 := cell_of_row w G 1 _ _ _ hb
  have k2 := cell_of_row w G 2 _ _ _ hb
  simp at k0 k1 k2
  exact ⟨k0, k1, k2, frozen_of_row w G 0 _ _ hb, frozen_of_row w G 1 _ _ hb, frozen_of_row w G 2 _ _ hb⟩

/-- a valid Rat of N / D is returned -/
def LPost (w : World) (X : Int) (Y : Nat) (n m : Nat) (e : Ending) (w' : World) : Prop :=
  ∃ (g : Bool) (p : Option Addr) (n' c : Nat) (q : Option Addr) (m' d : Nat), e = .returned (.agg #[.bool g, .slice p n' c, .slice q m' d]) ∧ IsI w' g p n' c X ∧ IsC w' q m' d Y ∧ n' ≤ n ∧ m' ≤ m ∧ w.grownBy w' none

theorem LPost.close {w w5 : World} {G : Nat} {x : Bool} {y z : Option Addr} {a b e f : Nat} {T : TypeId} {g : Bool} {p q : Option Addr} {n' c m' d n m : Nat} {X : Int} {Y : Nat}
    (hW : w5.heap[G]? = some (.cells #[.bool x, .slice y a b, .slice z e f] T (0, 0))) (hG : w.heap.size ≤ G) (hg : w.grownBy w5 none) (h1 : IsI w5 g p n' c X) (h2 : IsC w5 q m' d Y) (hn : n' ≤ n) (hm : m' ≤ m) :
    LPost w X Y n m (.returned (.agg #[.bool g, .slice p n' c, .slice q m' d])) (((w5.setCell ⟨G, 0, none⟩ (.bool g)).setCell ⟨G, 1, none⟩ (.slice p n' c)).setCell ⟨G, 2, none⟩ (.slice q m' d)) := by
  have hs := set3_grown w5 G (.bool g) (.slice p n' c) (.slice q m' d)
  exact ⟨g, p, n', c, q, m', d, rfl, ⟨IsC.other3 h1.1 hW hs, h1.2⟩, h2.other3 hW hs, hn, hm, grown_new hg hs (fun g e => by cases e; exact hG)⟩

def pn (N : Int) (D : Nat) : Int := if D = 0 then 0 else N
def pd (D : Nat) : Nat := if D = 0 then 1 else D
theorem pd_pos (D : Nat) : 0 < pd D := by unfold pd; split <;> omega

/-- the parts of a rational number -/
def PtPost (w : World) (N : Int) (D n m : Nat) (e : Ending) (w' : World) : Prop :=
  ∃ (g : Bool) (p : Option Addr) (n' c : Nat) (q : Option Addr) (m' d : Nat), e = .returned (.tuple #[.agg #[.bool g, .slice p n' c], .slice q m' d]) ∧ IsZ w' g p n' c (pn N D) ∧ IsN w' q m' d (pd D) ∧ n' ≤ n + 4 ∧ m' ≤ m + 4 ∧ w.grownBy w' none

theorem bits_zero {N b : Nat} (hb : IsBits N b) : b = 0 ↔ N = 0 := by
  rcases hb with ⟨h1, h2⟩ | ⟨h1, h2, h3⟩
  · omega
  · have := Nat.pow_pos (n := b - 1) (show 0 < 2 by omega); omega

theorem PtPost.close {w w5 : World} {G : Nat} {x : Bool} {y : Option Addr} {a b : Nat} {T : TypeId} {g : Bool} {p q : Option Addr} {n' c m' d n m D : Nat} {N : Int}
    (hW : w5.heap[G]? = some (.cells #[.bool x, .slice y a b] T (0, 0))) (hG : w.heap.size ≤ G) (hg : w.grownBy w5 none) (h1 : IsZ w5 g p n' c (pn N D)) (h2 : IsN w5 q m' d (pd D)) (hn : n' ≤ n + 4) (hm : m' ≤ m + 4) :
    PtPost w N D n m (.returned (.tuple #[.agg #[.bool g, .slice p n' c], .slice q m' d])) ((w5.setCell ⟨G, 0, none⟩ (.bool g)).setCell ⟨G, 1, none⟩ (.slice p n' c)) := by
  have hs : w5.grownBy ((w5.setCell ⟨G, 0, none⟩ (.bool g)).setCell ⟨G, 1, none⟩ (.slice p n' c)) (some G) := grown_trans (grown_setCell w5 ⟨G, 0, none⟩ _) (grown_setCell _ ⟨G, 1, none⟩ _)
  exact ⟨g, p, n', c, q, m', d, rfl, h1.other2 hW hs, h2.other2 hW hs, hn, hm, grown_new hg hs (fun g e => by cases e; exact hG)⟩

set_option maxHeartbeats 2000000 in
theorem parts_any {w : World} {g : Bool} {p q : Option Addr} {n c m d D : Nat} {N : Int} (hA : IsZ w g p n c N) (hB : IsN w q m d D) (hn : n ≤ 400000) (hm : m ≤ 400000) :
    Calls Tryd.prog 25 #[.agg #[.bool g, .slice p n c, .slice q m d]] w (PtPost w N D n m) := by
  have hb2 := grown_trans (World.grownBy_alloc w (.cells #[.bool g, .slice p n c, .slice q m d] 27) none) (World.grownBy_alloc _ (.cells #[.bool false, .slice none 0 0] 25) none)
  have HB := hid (natBits_n (hB.keep hb2) (by omega))
  by_cases e : D = 0
  · have HO1 := hid (fun W => intOf_any 0 W (by omega) (by omega))
    have HO2 := hid (fun W => of_at 1 1 rfl (by unfold W64; omega) W)
    unfold IPost at HO1
    have e1 : pn N D = 0 := by unfold pn; rw [if_pos e]
    have e2 : pd D = 1 := by unfold pd; rw [if_pos e]
    have l1 : (dg 65536 1).length = 1 := by rw [dg_step 1 (by omega)]; simp [dg_zero]
    have L1 := hid l1
    clear l1
    go_enter Tryd.func25, Tryd.ntmps25
    go_wp2_with fail
    refine HB.out.mono ?_
    rintro ee w' ⟨b, hb, rfl, HI, rfl⟩
    obtain rfl := (bits_zero HI.out).2 e
    go_wp2_with fail
    refine (HO1.out _).mono ?_
    rintro ee w1 ⟨g1, p1, n1, c1, rfl, h1, hn1, hg1⟩
    go_wp2_with fail
    refine (HO2.out _).mono ?_
    rintro ee w2 ⟨p2, c2, rfl, h2, hg2⟩
    have hg := grown_trans hg1 hg2
    have hc := gcell hg
    have hf := gfree hg
    have hz := hg.size
    simp at hz
    replace h1 := h1.keep hg2
    go_wp2_with fail
    exact bodyPost_ret (v := .tuple #[.agg #[.bool g1, .slice p1 n1 c1], .slice p2 (dg 65536 1).length c2]) (by simp [results, Tryd.results25, go_sem, hc]) rfl
      (PtPost.close ((hg.block _ (by simp) (by simp)).trans (second w _ _)) (by omega) (grown_trans hb2 hg) (by rw [e1]; exact h1.z) (by rw [e2]; exact IsC.isN h2) (by omega) (by rw [L1.out]; omega))
  · have e1 : pn N D = N := by unfold pn; rw [if_neg e]
    have e2 : pd D = D := by unfold pd; rw [if_neg e]
    go_enter Tryd.func25, Tryd.ntmps25
    go_wp2_with fail
    refine HB.out.mono ?_
    rintro ee w' ⟨b, hb, rfl, HI, rfl⟩
    have t0 : (((b : Int) == 0) = false) := beq_eq_false_iff_ne.2 (by have := (bits_zero HI.out).1; omega)
    go_wp2_with fail
    go_region
    all_goals go_wp2
    all_goals
      have hb3 := grown_trans (grown_trans (World.grownBy_alloc w (.cells #[.bool g, .slice p n c, .slice q m d] 27) none) (World.grownBy_alloc _ (.cells #[.bool g, .slice p n c] 25) none)) (grown_drew _ none)
      exact bodyPost_ret (v := .tuple #[.agg #[.bool g, .slice p n c], .slice q m d]) (by simp [results, Tryd.results25, go_sem]) rfl
        ⟨g, p, n, c, q, m, d, rfl, by rw [e1]; exact hA.keep hb3, by rw [e2]; exact hB.keep hb3, by omega, by omega, hb3⟩
end Go.Proofs.YthkgldpcgmnaiaaDoor

set_option linter.unusedVariables false
set_option linter.unusedSimpArgs false
namespace Go.Proofs.YthkgldpcgmnaiaaDoor
open Go.RowKit Nm

theorem IsZ.mk {w : World} {p : Option Addr} {n c M : Nat} (g : Bool) (h : IsN w p n c M) : IsZ w g p n c (sg g M) := ⟨by rw [sg_abs]; exact h, by rw [sg_abs]⟩
theorem sg_flag {w : World} {g : Bool} {p : Option Addr} {n c : Nat} {N : Int} (h : IsZ w g p n c N) (k : Nat) : sg g (N.natAbs / k) = sg (decide (N < 0)) (N.natAbs / k) := by
  have e := h.2
  by_cases h0 : N.natAbs = 0
  · rw [h0]; simp [sg_zero]
  · cases g
    · rw [sg_false] at e
      rw [decide_eq_false (by omega)]
    · rw [sg_true] at e
      rw [decide_eq_true (by omega)]
theorem sg_self (N : Int) : sg (decide (N < 0)) N.natAbs = N := by
  by_cases h : N < 0
  · rw [decide_eq_true h, sg_true]; omega
  · rw [decide_eq_false h, sg_false]; omega
theorem rn_one {N : Int} {D : Nat} (h : Nat.gcd N.natAbs D = 1) : rn N D = N := by unfold rn; rw [h, Nat.div_one, sg_self]
theorem rd_one {N : Int} {D : Nat} (h : Nat.gcd N.natAbs D = 1) : rd N D = D := by unfold rd; rw [h, Nat.div_one]
theorem first_of (w : World) (A B : Obj) : ((w.alloc A).alloc B).heap[w.heap.size]? = some A := (Below.heap_alloc (w.alloc A) B w.heap.size (by simp)).trans (heap_alloc_new w A)

set_option maxHeartbeats 4000000 in
theorem lowest_any {w : World} (T : Tb w) {g : Bool} {p q : Option Addr} {n c m d D : Nat} {N : Int} (hA : IsZ w g p n c N) (hB : IsN w q m d D) (hD : 0 < D) (hn : n ≤ 300000) (hm : m ≤ 300000) :
    Calls Tryd.prog 24 #[.agg #[.bool g, .slice p n c], .slice q m d] w (LPost w (rn N D) (rd N D) n (m + 1)) := by
  have hb2 := grown_trans (World.grownBy_alloc w (.cells #[.bool g, .slice p n c] 25) none) (World.grownBy_alloc _ (.cells #[.bool false, .slice none 0 0, .slice none 0 0] 27) none)
  have H1 := isOne_any (hB.keep hb2)
  have HN := hid (fun W (h : w.grownBy W none) => intNorm_any (hA.keep h) (by omega))
  unfold IPost at HN
  by_cases e : D = 1
  · rw [decide_eq_true e] at H1
    replace H1 := hid H1
    have hgc : Nat.gcd N.natAbs D = 1 := by rw [e]; exact Nat.gcd_one_right _
    have e1 := rn_one hgc
    have e2 : rd N D = 1 := (rd_one hgc).trans e
    have HO2 := hid (fun W => of_at 1 1 rfl (by unfold W64; omega) W)
    have l1 : (dg 65536 1).length = 1 := by rw [dg_step 1 (by omega)]; simp [dg_zero]
    have L1 := hid l1
    clear l1 hgc
    go_enter Tryd.func24, Tryd.ntmps24
    go_wp2_with fail
    refine H1.out.mono ?_
    rintro ee w1 ⟨rfl, hg1⟩
    have hc := gcell hg1
    have hf := gfree hg1
    have hz := hg1.size
    simp at hz
    go_wp2_with fail
    refine (HN.out _ (grown_trans hb2 hg1)).mono ?_
    rintro ee w2 ⟨g1, p1, n1, c1, rfl, h1, hn1, hg2⟩
    go_wp2_with fail
    refine (HO2.out _).mono ?_
    rintro ee w3 ⟨p2, c2, rfl, h2, hg3⟩
    have hg := grown_trans hg1 (grown_trans hg2 hg3)
    clear hc hf hz
    have hc := gcell hg
    have hf := gfree hg
    have hz := hg.size
    simp at hz
    replace h1 := h1.keep hg3
    go_wp2_with fail
    exact bodyPost_ret (v := .agg #[.bool g1, .slice p1 n1 c1, .slice p2 (dg 65536 1).length c2]) (by simp [results, Tryd.results24, go_sem, hc]) rfl
      (LPost.close ((hg.block _ (by simp) (by simp)).trans (second w _ _)) (by omega) (grown_trans hb2 hg) (by rw [e1]; exact h1) (by rw [e2]; exact h2) hn1 (by rw [L1.out]; omega))
  rw [decide_eq_false e] at H1
  replace H1 := hid H1
  have HG := hid (fun W (h : w.grownBy W none) => natGcd_n (T.keep h) (hA.1.keep h) (hB.keep h) (by omega) (by omega))
  have GP : 0 < Nat.gcd N.natAbs D := Nat.gcd_pos_of_pos_right _ hD
  by_cases e1 : Nat.gcd N.natAbs D = 1
  · have E1 := hid (rn_one e1)
    have E2 := hid (rd_one e1)
    have HM := hid (fun W (h : w.grownBy W none) => natNorm_n (hB.keep h) (by omega))
    rw [e1] at HG
    clear e1 GP
    go_enter Tryd.func24, Tryd.ntmps24
    go_wp2_with fail
    refine H1.out.mono ?_
    rintro ee w1 ⟨rfl, hg1⟩
    have hc := gcell hg1
    have hf := gfree hg1
    have hz := hg1.size
    simp at hz
    go_wp2_with fail
    refine (HG.out _ (grown_trans hb2 hg1)).mono ?_
    rintro ee w2 ⟨p1, n1, c1, rfl, h1, hn1, hg2⟩
    replace hg2 := grown_trans hg1 hg2
    clear hc hf hz
    have hc := gcell hg2
    have hf := gfree hg2
    have hz := hg2.size
    simp at hz
    go_wp2_with fail
    refine (isOne_any h1.isN).mono ?_
    rintro ee w3 ⟨rfl, hg3⟩
    rw [decide_eq_true rfl]
    replace hg3 := grown_trans hg2 hg3
    clear hc hf hz
    have hc := gcell hg3
    have hf := gfree hg3
    have hz := hg3.size
    simp at hz
    go_wp2_with fail
    refine (HN.out _ (grown_trans hb2 hg3)).mono ?_
    rintro ee w4 ⟨g2, p2, n2, c2, rfl, h2, hn2, hg4⟩
    replace hg4 := grown_trans hg3 hg4
    clear hc hf hz
    have hc := gcell hg4
    have hf := gfree hg4
    have hz := hg4.size
    simp at hz
    go_wp2_with fail
    refine (HM.out _ (grown_trans hb2 hg4)).mono ?_
    rintro ee w5 ⟨p3, n3, c3, rfl, h3, hn3, hg5⟩
    replace h2 := h2.keep hg5
    replace hg5 := grown_trans hg4 hg5
    clear hc hf hz
    have hc := gcell hg5
    have hf := gfree hg5
    have hz := hg5.size
    simp at hz
    go_wp2_with fail
    exact bodyPost_ret (v := .agg #[.bool g2, .slice p2 n2 c2, .slice p3 n3 c3]) (by simp [results, Tryd.results24, go_sem, hc]) rfl
      (LPost.close ((hg5.block _ (by simp) (by simp)).trans (second w _ _)) (by omega) (grown_trans hb2 hg5) (by rw [E1.out]; exact h2) (by rw [E2.out]; exact h3) hn2 (by omega))
  · have GN := hid e1
    have SF := hid (sg_flag hA (Nat.gcd N.natAbs D))
    obtain ⟨G, hG⟩ : ∃ G, G = Nat.gcd N.natAbs D := ⟨_, rfl⟩
    have HGE := hid hG
    rw [← hG] at HG GN GP SF
    clear hG e1
    have GPH := hid GP
    have HX := hid (decide_eq_false GN.out)
    have HGX := hid (fun (x y : Nat) (hx : x ≤ n) (hy : y ≤ m) => show max x y ≤ 300000 by omega)
    go_enter Tryd.func24, Tryd.ntmps24
    go_wp2_with fail
    refine H1.out.mono ?_
    rintro ee w1 ⟨rfl, hg1⟩
    have hc := gcell hg1
    have hf := gfree hg1
    have hz := hg1.size
    simp at hz
    go_wp2_with fail
    refine (HG.out _ (grown_trans hb2 hg1)).mono ?_
    rintro ee w2 ⟨p1, n1, c1, rfl, h1, hn1, hg2⟩
    replace hg2 := grown_trans hg1 hg2
    clear hc hf hz
    have hc := gcell hg2
    have hf := gfree hg2
    have hz := hg2.size
    simp at hz
    go_wp2_with fail
    refine (isOne_any h1.isN).mono ?_
    rintro ee w3 ⟨rfl, hg3⟩
    rw [HX.out]
    replace h1 := h1.keep hg3
    replace hg3 := grown_trans hg2 hg3
    clear hc hf hz
    have hc := gcell hg3
    have hf := gfree hg3
    have hz := hg3.size
    simp at hz
    go_wp2_with fail
    refine (natDivMod_n (hA.1.keep (grown_trans hb2 hg3)) h1.isN (by omega) (by omega) GPH.out).mono ?_
    rintro ee w4 ⟨p2, n2, c2, p3, n3, c3, rfl, h2, h3, hn2, hn3, hn3', hg4⟩
    clear h3 hn3 hn3'
    replace h1 := h1.keep hg4
    replace hg4 := grown_trans hg3 hg4
    clear hc hf hz
    have hc := gcell hg4
    have hf := gfree hg4
    have hz := hg4.size
    simp at hz
    have hlt : w.heap.size < w4.heap.size := by omega
    have hlt1 : w.heap.size + 1 < w4.heap.size := by omega
    have hbx := (hg4.block w.heap.size (by simp; omega) (by simp)).trans (first_of w _ _)
    have hb1 := (hg4.block (w.heap.size + 1) (by simp) (by simp)).trans (second w _ _)
    have hs := grown_setCell w4 ⟨w.heap.size, 1, none⟩ (.slice p2 n2 c2)
    have kx : w4.cell? ⟨w.heap.size, 1, none⟩ = some (.slice p n c) := by
      have := cell_of_row w4 w.heap.size 1 _ _ _ hbx
      simpa using this
    have kf := frozen_of_row w4 w.heap.size 1 _ _ hbx
    have k5 : (w4.setCell ⟨w.heap.size, 1, none⟩ (.slice p2 n2 c2)).cell? ⟨w.heap.size, 1, none⟩ = some (.slice p2 n2 c2) := by simp [go_sem, kx, kf]
    have hB4 := (hB.keep (grown_trans hb2 hg4)).other2 hbx hs
    have h1s := h1.other2 hbx hs
    have h2s := h2.other2 hbx hs
    have hb1s := (hs.block (w.heap.size + 1) (lt_of_block hb1) (by simp)).trans hb1
    have hgs : w.grownBy (w4.setCell ⟨w.heap.size, 1, none⟩ (.slice p2 n2 c2)) none := grown_new (grown_trans hb2 hg4) hs (fun g e => by cases e; exact Nat.le_refl _)
    go_wp2_with fail
    refine (natDivMod_n hB4 h1s.isN (by omega) (by omega) GPH.out).mono ?_
    rintro ee w5 ⟨p4, n4, c4, p5, n5, c5, rfl, h4, h5, hn4, hn5, hn5', hg5⟩
    clear h5 hn5 hn5'
    replace h2s := h2s.keep hg5
    have k6 := hg5.cell k5 (by simp)
    have hc5 := gcell hg5
    have hf5 := gfree hg5
    have hz5 := hg5.size
    simp at hz5
    go_wp2_with fail
    refine (intNorm_any (IsZ.mk g h2s.isN) (by omega)).mono ?_
    rintro ee w6 ⟨g6, p6, n6, c6, rfl, h6, hn6, hg6⟩
    replace h4 := h4.keep hg6
    replace hg6 := grown_trans hg5 hg6
    clear hc5 hf5 hz5
    clear k6
    have hbF := (hg6.block _ (lt_of_block hb1s) (by simp)).trans hb1s
    obtain ⟨l0, l1, l2, m0, m1, m2⟩ := ratbox_facts hbF
    go_wp2_with fail
    exact bodyPost_ret (v := .agg #[.bool g6, .slice p6 n6 c6, .slice p4 n4 c4]) (by simp [results, Tryd.results24, go_sem, l0, l1, l2, m0, m1, m2]) rfl
      (LPost.close hbF (by omega) (grown_trans hgs hg6) (by unfold rn; rw [← HGE.out, ← SF.out]; exact h6) (by unfold rd; rw [← HGE.out]; exact h4) (by omega) (by omega))
end Go.Proofs.YthkgldpcgmnaiaaDoor

set_option linter.unusedVariables false
set_option linter.unusedSimpArgs false
namespace Go.Proofs.YthkgldpcgmnaiaaDoor
open Go.RowKit Nm

/-- the numerator over a positive denominator -/
def qn (N M : Int) : Int := if M < 0 then -N else N
theorem qn_sg {w : World} {g h : Bool} {p q : Option Addr} {n c m d : Nat} {N M : Int} (hA : IsZ w g p n c N) (hB : IsZ w h q m d M) (h0 : M ≠ 0) : sg (g != h) N.natAbs = qn N M := by
  have e1 := hA.2
  have e2 := hB.2
  unfold qn
  cases h
  · rw [sg_false] at e2
    rw [if_neg (by omega)]
    simpa using e1.symm
  · rw [sg_true] at e2
    rw [if_pos (by omega)]
    have : (g != true) = !g := by cases g <;> rfl
    rw [this, sg_not, ← e1]

set_option maxHeartbeats 4000000 in
theorem quotient_any {w : World} (T : Tb w) {g h : Bool} {p q : Option Addr} {n c m d : Nat} {N M : Int} (hA : IsZ w g p n c N) (hB : IsZ w h q m d M) (h0 : M ≠ 0) (hn : n ≤ 300000) (hm : m ≤ 300000) :
    Calls Tryd.prog 42 #[.agg #[.bool g, .slice p n c], .agg #[.bool h, .slice q m d]] w (LPost w (rn (qn N M) M.natAbs) (rd (qn N M) M.natAbs) n (m + 1)) := by
  have HL := hid (fun W (hW : w.grownBy W none) => lowest_any (T.keep hW) (g := (g != h)) (N := sg (g != h) N.natAbs) (IsZ.mk _ (hA.1.keep hW)) (hB.1.keep hW) (by omega) hn hm)
  rw [qn_sg hA hB h0] at HL
  generalize rn (qn N M) M.natAbs = X at *
  generalize rd (qn N M) M.natAbs = Y at *
  unfold LPost at HL
  obtain ⟨f, hf⟩ : ∃ f, f = (g != h) := ⟨_, rfl⟩
  rw [← hf] at HL
  have hws := grown_trans (grown_trans (World.grownBy_alloc w (.cells #[.bool f, .slice p n c] 25) none) (World.grownBy_alloc _ (.cells #[.bool h, .slice q m d] 25) none)) (World.grownBy_alloc _ (.cells #[.bool false, .slice none 0 0, .slice none 0 0] 27) none)
  clear hA hB T h0
  cases g <;> cases h
  all_goals
    simp at hf
    subst hf
    go_enter Tryd.func42, Tryd.ntmps42
    go_wp2_with fail
    refine (HL.out _ hws).mono ?_
    rintro ee w1 ⟨g1, p1, n1, c1, q1, m1, d1, rfl, h1, h2, hn1, hm1, hg⟩
    have hc := gcell hg
    have hf := gfree hg
    have hz := hg.size
    simp at hz
    go_wp2_with fail
    exact bodyPost_ret (v := .agg #[.bool g1, .slice p1 n1 c1, .slice q1 m1 d1]) (by simp [results, Tryd.results42, go_sem, hc]) rfl
      (LPost.close ((hg.block _ (by simp) (by simp)).trans (third w _ _ _)) (by omega) (grown_trans hws hg) h1 h2 hn1 hm1)

theorem cmpI_zero_iff (M : Int) : cmpI M 0 = 0 ↔ M = 0 := by
  unfold cmpI
  split
  · omega
  · split <;> omega

/-- a Rat and no error -/
def MkPost (w : World) (X : Int) (Y : Nat) (n m : Nat) (e : Ending) (w' : World) : Prop :=
  ∃ (g : Bool) (p : Option Addr) (n' c : Nat) (q : Option Addr) (m' d : Nat), e = .returned (.tuple #[.agg #[.bool g, .slice p n' c, .slice q m' d], .int .i64 0]) ∧ IsI w' g p n' c X ∧ IsC w' q m' d Y ∧ n' ≤ n ∧ m' ≤ m ∧ w.grownBy w' none
theorem MkPost.of {w w' : World} {X : Int} {Y n m : Nat} {g : Bool} {p q : Option Addr} {n' c m' d : Nat} (h : LPost w X Y n m (.returned (.agg #[.bool g, .slice p n' c, .slice q m' d])) w') :
    MkPost w X Y n m (.returned (.tuple #[.agg #[.bool g, .slice p n' c, .slice q m' d], .int .i64 0])) w' := by
  obtain ⟨g1, p1, n1, c1, q1, m1, d1, e, h⟩ := h
  simp at e
  obtain ⟨rfl, ⟨rfl, rfl, rfl⟩, rfl, rfl, rfl⟩ := e
  exact ⟨g, p, n', c, q, m', d, rfl, h⟩


end Go.Proofs.YthkgldpcgmnaiaaDoor

set_option linter.unusedVariables false
set_option linter.unusedSimpArgs false
namespace Go.Proofs.YthkgldpcgmnaiaaDoor
open Go.RowKit Nm

theorem rn_q {N : Int} {D : Nat} (h : 0 < D) : rn N D = (mkRat N D).num := by
  rw [Rat.num_mkRat, if_neg (by omega), Nat.gcd_comm]
  unfold rn
  by_cases h0 : N < 0
  · rw [decide_eq_true h0]
    show -((N.natAbs / Nat.gcd N.natAbs D : Nat) : Int) = _
    have e : N = -(N.natAbs : Int) := by omega
    have hd : ((Nat.gcd N.natAbs D : Nat) : Int) ∣ (N.natAbs : Int) := Int.natCast_dvd_natCast.2 (Nat.gcd_dvd_left _ _)
    rw [Int.natCast_ediv, ← Int.neg_ediv_of_dvd hd, ← e]
  · rw [decide_eq_false h0]
    show ((N.natAbs / Nat.gcd N.natAbs D : Nat) : Int) = _
    have e : N = (N.natAbs : Int) := by omega
    rw [Int.natCast_ediv, ← e]
theorem rd_q {N : Int} {D : Nat} (h : 0 < D) : rd N D = (mkRat N D).den := by
  rw [Rat.den_mkRat, if_neg (by omega), Nat.gcd_comm]
  rfl
theorem pq (N : Int) (D : Nat) : mkRat (pn N D) (pd D) = mkRat N D := by
  unfold pn pd
  split
  · next h => subst h; simp
  · rfl
theorem mk_lt {A B : Int} {D E : Nat} (hD : 0 < D) (hE : 0 < E) : mkRat A D < mkRat B E ↔ A * E < B * D := by
  have hD' : (0 : Rat) < (D : Rat) := Rat.natCast_pos.2 hD
  have hE' : (0 : Rat) < (E : Rat) := Rat.natCast_pos.2 hE
  have e1 : (A : Rat) = mkRat A D * D := by rw [Rat.mkRat_eq_div]; grind
  have e2 : (B : Rat) = mkRat B E * E := by rw [Rat.mkRat_eq_div]; grind
  rw [← Rat.intCast_lt_intCast]
  simp only [Rat.intCast_mul, Rat.intCast_natCast]
  rw [e1, e2]
  generalize mkRat A D = x
  generalize mkRat B E = y
  have : x * D * E = x * (D * E) := by grind
  rw [this]
  have : y * E * D = y * (D * E) := by grind
  rw [this]
  exact (Rat.mul_lt_mul_right (Rat.mul_pos hD' hE')).symm
theorem qn_q {N M : Int} (h0 : M ≠ 0) : mkRat (qn N M) M.natAbs = (N : Rat) / (M : Rat) := by
  rw [Rat.mkRat_eq_div]
  unfold qn
  by_cases h : M < 0
  · rw [if_pos h]
    have e : M = -(M.natAbs : Int) := by omega
    generalize hk : M.natAbs = k at *
    subst e
    have : ((-(k : Int) : Int) : Rat) = -(k : Rat) := by rw [Rat.intCast_neg, Rat.intCast_natCast]
    rw [this, Rat.intCast_neg]
    grind
  · rw [if_neg h]
    have e : M = (M.natAbs : Int) := by omega
    generalize hk : M.natAbs = k at *
    subst e
    rw [Rat.intCast_natCast]
theorem mk_div {A B : Int} {D E : Nat} (hD : 0 < D) (hE : 0 < E) (hB : B ≠ 0) : ((A * E : Int) : Rat) / ((B * D : Int) : Rat) = mkRat A D / mkRat B E := by
  have hD' : (D : Rat) ≠ 0 := fun h => by have := Rat.natCast_pos.2 hD; grind
  have hE' : (E : Rat) ≠ 0 := fun h => by have := Rat.natCast_pos.2 hE; grind
  have hB' : (B : Rat) ≠ 0 := fun h => hB (by exact_mod_cast h)
  rw [Rat.mkRat_eq_div, Rat.mkRat_eq_div]
  simp only [Rat.intCast_mul, Rat.intCast_natCast]
  grind
/-- less, equal or greater -/
def cmpR (v u : Rat) : Int := if v < u then -1 else if v = u then 0 else 1
theorem cmp_q {A B : Int} {D E : Nat} (hD : 0 < D) (hE : 0 < E) : cmpI (A * E) (B * D) = cmpR (mkRat A D) (mkRat B E) := by
  unfold cmpI cmpR
  have h1 := mk_lt (A := A) (B := B) hD hE
  have h2 := Rat.mkRat_eq_iff (n₁ := A) (n₂ := B) (d₁ := D) (d₂ := E) (by omega) (by omega)
  simp only [h1, h2]
  generalize A * (E : Int) = x
  generalize B * (D : Int) = y
  repeat' split
  all_goals first | rfl | (exfalso; omega)
theorem sign_q {A : Int} {D : Nat} (hD : 0 < D) : cmpI A 0 = cmpR (mkRat A D) 0 := by
  have := cmp_q (A := A) (B := 0) (E := 1) hD (by omega)
  simpa using this

theorem cmpR_bound (v u : Rat) : cmpR v u = -1 ∨ cmpR v u = 0 ∨ cmpR v u = 1 := by unfold cmpR; split <;> (try split) <;> simp
theorem cmpR_neg (v u : Rat) : cmpR u v = -cmpR v u := by
  unfold cmpR
  by_cases h : v < u
  · have : ¬ u < v := by grind
    have : ¬ u = v := by grind
    simp [*]
  · by_cases h2 : v = u
    · subst h2; simp [h]
    · have : u < v := by grind
      simp [*]
theorem cmpR_congr {v u v' u' : Rat} (h1 : v < u ↔ v' < u') (h2 : v = u ↔ v' = u') : cmpR v u = cmpR v' u' := by unfold cmpR; simp only [h1, h2]
theorem cmpR_sub (v u : Rat) : cmpR (v - u) 0 = cmpR v u := cmpR_congr (by grind) (by grind)
theorem cmpR_add (v u t : Rat) : cmpR (v + t) (u + t) = cmpR v u := cmpR_congr (by grind) (by grind)
theorem cmpR_lt {v u : Rat} (h : v < u) : cmpR v u = -1 := by unfold cmpR; rw [if_pos h]
theorem cmpR_gt {v u : Rat} (h : u < v) : cmpR v u = 1 := by rw [cmpR_neg u v, cmpR_lt h]; rfl
theorem cmpR_eq (v : Rat) : cmpR v v = 0 := by unfold cmpR; rw [if_neg (by grind), if_pos rfl]
theorem cmpR_zero {v u : Rat} : cmpR v u = 0 ↔ v = u := by
  constructor
  · intro h
    unfold cmpR at h
    split at h
    · omega
    · split at h
      · assumption
      · omega
  · rintro rfl; exact cmpR_eq _
theorem cmpR_mul (v u t : Rat) : cmpR (v * t) (u * t) = cmpR v u * cmpR t 0 := by
  have hc : t < 0 ∨ t = 0 ∨ 0 < t := by grind
  have hd : v < u ∨ v = u ∨ u < v := by grind
  rcases hc with h | h | h
  · rw [cmpR_lt h]
    rcases hd with k | k | k
    · rw [cmpR_lt k]
      exact cmpR_gt (by have := Rat.mul_lt_mul_of_pos_right k (show 0 < -t by grind); grind)
    · subst k; rw [cmpR_eq, cmpR_eq]; rfl
    · rw [cmpR_gt k]
      exact cmpR_lt (by have := Rat.mul_lt_mul_of_pos_right k (show 0 < -t by grind); grind)
  · subst h; simp [cmpR_eq]
  · rw [cmpR_gt h]
    rcases hd with k | k | k
    · rw [cmpR_lt k]
      exact cmpR_lt (by have := Rat.mul_lt_mul_of_pos_right k h; grind)
    · subst k; rw [cmpR_eq, cmpR_eq]; rfl
    · rw [cmpR_gt k]
      exact cmpR_gt (by have := Rat.mul_lt_mul_of_pos_right k h; grind)
theorem fl_le (v : Rat) : ((v.num / (v.den : Int) : Int) : Rat) ≤ v := by
  have := Rat.floor_le v
  rwa [Rat.floor_def] at this
theorem fl_lt (v : Rat) : v < ((v.num / (v.den : Int) : Int) : Rat) + 1 := by
  have := Rat.lt_floor (x := v)
  rw [Rat.floor_def] at this
  grind

/-- the struct stands for the rational number v, perhaps not in its valid form -/
def IsQ (w : World) (g : Bool) (p : Option Addr) (n c : Nat) (q : Option Addr) (m d : Nat) (v : Rat) : Prop := ∃ (N : Int) (D : Nat), IsZ w g p n c N ∧ IsN w q m d D ∧ v = mkRat N D
theorem IsQ.keep {w w' : World} {g : Bool} {p q : Option Addr} {n c m d : Nat} {v : Rat} (h : IsQ w g p n c q m d v) (hg : w.grownBy w' none) : IsQ w' g p n c q m d v :=
  let ⟨N, D, h1, h2, h3⟩ := h; ⟨N, D, h1.keep hg, h2.keep hg, h3⟩
/-- it is the valid Rat of v -/
def IsV (w : World) (g : Bool) (p : Option Addr) (n c : Nat) (q : Option Addr) (m d : Nat) (v : Rat) : Prop := IsI w g p n c v.num ∧ IsC w q m d v.den
theorem IsV.keep {w w' : World} {g : Bool} {p q : Option Addr} {n c m d : Nat} {v : Rat} (h : IsV w g p n c q m d v) (hg : w.grownBy w' none) : IsV w' g p n c q m d v := ⟨h.1.keep hg, h.2.keep hg⟩
theorem IsV.q {w : World} {g : Bool} {p q : Option Addr} {n c m d : Nat} {v : Rat} (h : IsV w g p n c q m d v) : IsQ w g p n c q m d v := ⟨_, _, h.1.z, h.2.isN, (Rat.mkRat_self v).symm⟩
theorem IsV.congr {w : World} {g : Bool} {p q : Option Addr} {n c m d : Nat} {v u : Rat} (h : IsV w g p n c q m d v) (e : v = u) : IsV w g p n c q m d u := e ▸ h

/-- a valid Rat of v is returned -/
def VPost (w : World) (v : Rat) (B : Nat) (e : Ending) (w' : World) : Prop :=
  ∃ (g : Bool) (p : Option Addr) (n c : Nat) (q : Option Addr) (m d : Nat), e = .returned (.agg #[.bool g, .slice p n c, .slice q m d]) ∧ IsV w' g p n c q m d v ∧ n ≤ B ∧ m ≤ B ∧ w.grownBy w' none
theorem LPost.v {w w' : World} {X : Int} {Y n m B : Nat} {e : Ending} {v : Rat} (h : LPost w X Y n m e w') (e1 : X = v.num) (e2 : Y = v.den) (hn : n ≤ B) (hm : m ≤ B) : VPost w v B e w' := by
  obtain ⟨g, p, n', c, q, m', d, he, h1, h2, h3, h4, h5⟩ := h
  subst e1 e2
  exact ⟨g, p, n', c, q, m', d, he, ⟨h1, h2⟩, by omega, by omega, h5⟩

theorem lowest_v {w : World} (T : Tb w) {g : Bool} {p q : Option Addr} {n c m d D B : Nat} {N : Int} (hA : IsZ w g p n c N) (hB : IsN w q m d D) (hD : 0 < D) (hn : n ≤ B) (hm : m + 1 ≤ B) (hx : B ≤ 300000) :
    Calls Tryd.prog 24 #[.agg #[.bool g, .slice p n c], .slice q m d] w (VPost w (mkRat N D) B) :=
  (lowest_any T hA hB hD (by omega) (by omega)).mono fun _ _ h => h.v (rn_q hD) (rd_q hD) hn hm
end Go.Proofs.YthkgldpcgmnaiaaDoor

set_option linter.unusedVariables false
set_option linter.unusedSimpArgs false
namespace Go.Proofs.YthkgldpcgmnaiaaDoor
open Go.RowKit Nm

theorem intbox_facts {w : World} {G : Nat} {x : Bool} {y : Option Addr} {a b : Nat} {T : TypeId} (hb : w.heap[G]? = some (.cells #[.bool x, .slice y a b] T (0, 0))) :
    w.cell? ⟨G, 0, none⟩ = some (.bool x) ∧ w.cell? ⟨G, 1, none⟩ = some (.slice y a b) ∧ w.frozen? ⟨G, 0, none⟩ = false ∧ w.frozen? ⟨G, 1, none⟩ = false := by
  have k0 := cell_of_row w G 0 _ _ _ hb
  have k1 := cell_of_row w G 1 _ _ _ hb
  simp at k0 k1
  exact ⟨k0, k1, frozen_of_row w G 0 _ _ hb, frozen_of_row w G 1 _ _ hb⟩

theorem VPost.close {w w5 : World} {G : Nat} {x : Bool} {y z : Option Addr} {a b e f : Nat} {T : TypeId} {g : Bool} {p q : Option Addr} {n c m d B : Nat} {v : Rat}
    (hW : w5.heap[G]? = some (.cells #[.bool x, .slice y a b, .slice z e f] T (0, 0))) (hG : w.heap.size ≤ G) (hg : w.grownBy w5 none) (h1 : IsV w5 g p n c q m d v) (hn : n ≤ B) (hm : m ≤ B) :
    VPost w v B (.returned (.agg #[.bool g, .slice p n c, .slice q m d])) (((w5.setCell ⟨G, 0, none⟩ (.bool g)).setCell ⟨G, 1, none⟩ (.slice p n c)).setCell ⟨G, 2, none⟩ (.slice q m d)) := by
  have hs := set3_grown w5 G (.bool g) (.slice p n c) (.slice q m d)
  exact ⟨g, p, n, c, q, m, d, rfl, ⟨⟨IsC.other3 h1.1.1 hW hs, h1.1.2⟩, h1.2.other3 hW hs⟩, hn, hm, grown_new hg hs (fun g e => by cases e; exact hG)⟩

theorem IsQ.opp {w : World} {g : Bool} {p q : Option Addr} {n c m d : Nat} {v : Rat} (h : IsQ w g p n c q m d v) : IsQ w (!g) p n c q m d (-v) := by
  obtain ⟨N, D, h1, h2, rfl⟩ := h
  refine ⟨-N, D, ⟨?_, ?_⟩, h2, Rat.neg_mkRat N D⟩
  · rw [Int.natAbs_neg]; exact h1.1
  · have := h1.2
    rw [Int.natAbs_neg, sg_not]
    omega

set_option maxHeartbeats 1000000 in
theorem opposite_any {w : World} (g : Bool) (p q : Option Addr) (n c m d : Nat) :
    Calls Tryd.prog 26 #[.agg #[.bool g, .slice p n c, .slice q m d]] w fun e w' => e = .returned (.agg #[.bool (!g), .slice p n c, .slice q m d]) ∧ w.grownBy w' none := by
  have hb2 := grown_trans (World.grownBy_alloc w (.cells #[.bool g, .slice p n c, .slice q m d] 27) none) (World.grownBy_alloc _ (.cells #[.bool false, .slice none 0 0, .slice none 0 0] 27) none)
  go_enter Tryd.func26, Tryd.ntmps26
  go_wp2
  exact bodyPost_ret (v := .agg #[.bool (!g), .slice p n c, .slice q m d]) (by simp [results, Tryd.results26, go_sem]) rfl ⟨rfl, grown_trans (World.grownBy_alloc w _ none) (World.grownBy_alloc _ _ none)⟩


end Go.Proofs.YthkgldpcgmnaiaaDoor

set_option linter.unusedVariables false
set_option linter.unusedSimpArgs false
namespace Go.Proofs.YthkgldpcgmnaiaaDoor
open Go.RowKit Nm

/-- a struct of a bool and a slice, written -/
theorem set2_block {w : World} {G : Nat} {x : Bool} {y : Option Addr} {a b : Nat} {T : TypeId} (hb : w.heap[G]? = some (.cells #[.bool x, .slice y a b] T (0, 0))) (g : Bool) (p : Option Addr) (n c : Nat) :
    ((w.setCell ⟨G, 0, none⟩ (.bool g)).setCell ⟨G, 1, none⟩ (.slice p n c)).heap[G]? = some (.cells #[.bool g, .slice p n c] T (0, 0)) := by
  have h1 := heap_setCell_same w G 0 _ _ (.bool g) hb
  have h2 := heap_setCell_same _ G 1 _ _ (.slice p n c) h1
  rw [h2]
  simp
theorem set2_grown (w : World) (G : Nat) (a b : Value) : w.grownBy ((w.setCell ⟨G, 0, none⟩ a).setCell ⟨G, 1, none⟩ b) (some G) :=
  grown_trans (grown_setCell w ⟨G, 0, none⟩ a) (grown_setCell _ ⟨G, 1, none⟩ b)
theorem IsZ.of_n {w : World} {q : Option Addr} {m d D : Nat} (h : IsN w q m d D) : IsZ w false q m d (D : Int) := IsZ.mk false h

theorem sum_val {X N M : Int} {Y D E : Nat} (hY : 0 < Y) (h : mkRat X Y = mkRat N D) : mkRat (X * (pd E : Int) + pn M E * (Y : Int)) (Y * pd E) = mkRat N D + mkRat M E := by
  rw [← h, ← pq M E, Rat.mkRat_add_mkRat _ _ (by omega) (by have := pd_pos E; omega)]

end Go.Proofs.YthkgldpcgmnaiaaDoor

set_option linter.unusedVariables false
set_option linter.unusedSimpArgs false
namespace Go.Proofs.YthkgldpcgmnaiaaDoor
open Go.RowKit Nm

/-- a valid Rat of v and no error are returned -/
def MPost (w : World) (v : Rat) (B : Nat) (e : Ending) (w' : World) : Prop :=
  ∃ (g : Bool) (p : Option Addr) (n c : Nat) (q : Option Addr) (m d : Nat), e = .returned (.tuple #[.agg #[.bool g, .slice p n c, .slice q m d], .int .i64 0]) ∧ IsV w' g p n c q m d v ∧ n ≤ B ∧ m ≤ B ∧ w.grownBy w' none
/-- the zero Rat and an error are returned -/
def EPost (w : World) (x : Int) (e : Ending) (w' : World) : Prop := e = .returned (.tuple #[.agg #[.bool false, .slice none 0 0, .slice none 0 0], .int .i64 x]) ∧ w.grownBy w' none
theorem MPost.close {w w5 : World} {G : Nat} {x : Bool} {y z : Option Addr} {a b e f : Nat} {T : TypeId} {g : Bool} {p q : Option Addr} {n c m d B : Nat} {v : Rat}
    (hW : w5.heap[G]? = some (.cells #[.bool x, .slice y a b, .slice z e f] T (0, 0))) (hG : w.heap.size ≤ G) (hg : w.grownBy w5 none) (h1 : IsV w5 g p n c q m d v) (hn : n ≤ B) (hm : m ≤ B) :
    MPost w v B (.returned (.tuple #[.agg #[.bool g, .slice p n c, .slice q m d], .int .i64 0])) (((w5.setCell ⟨G, 0, none⟩ (.bool g)).setCell ⟨G, 1, none⟩ (.slice p n c)).setCell ⟨G, 2, none⟩ (.slice q m d)) := by
  have hs := set3_grown w5 G (.bool g) (.slice p n c) (.slice q m d)
  exact ⟨g, p, n, c, q, m, d, rfl, ⟨⟨IsC.other3 h1.1.1 hW hs, h1.1.2⟩, h1.2.other3 hW hs⟩, hn, hm, grown_new hg hs (fun g e => by cases e; exact hG)⟩
theorem EPost.close {w w5 : World} {G : Nat} (hG : w.heap.size ≤ G) (hg : w.grownBy w5 none) (x : Int) (a b c : Value) :
    EPost w x (.returned (.tuple #[.agg #[.bool false, .slice none 0 0, .slice none 0 0], .int .i64 x])) (((w5.setCell ⟨G, 0, none⟩ a).setCell ⟨G, 1, none⟩ b).setCell ⟨G, 2, none⟩ c) :=
  ⟨rfl, grown_new hg (set3_grown w5 G a b c) (fun g e => by cases e; exact hG)⟩


theorem IsQ.mk' {w : World} {g : Bool} {p q : Option Addr} {n c m d D : Nat} {N : Int} (h1 : IsZ w g p n c N) (h2 : IsN w q m d D) : IsQ w g p n c q m d (mkRat N D) := ⟨N, D, h1, h2, rfl⟩








end Go.Proofs.YthkgldpcgmnaiaaDoor

set_option linter.unusedVariables false
set_option linter.unusedSimpArgs false
namespace Go.Proofs.YthkgldpcgmnaiaaDoor
open Go.RowKit Nm


theorem IsI.sort {w : World} {g : Bool} {p : Option Addr} {n c : Nat} {Z : Int} (h : IsI w g p n c Z) :
    (n = 0 ∧ g = false ∧ cmpI Z 0 = 0) ∨ (0 < n ∧ g = true ∧ cmpI Z 0 = -1) ∨ (0 < n ∧ g = false ∧ cmpI Z 0 = 1) := by
  have hp := h.1.pos_len
  have hg := h.2
  rcases Int.lt_trichotomy Z 0 with h1 | h1 | h1
  · refine .inr (.inl ⟨?_, by rw [hg]; simpa using h1, by unfold cmpI; simp [h1]⟩)
    have : decide (0 < Z.natAbs) = true := by simp; omega
    rw [this] at hp; simpa using hp
  · subst h1
    refine .inl ⟨?_, by rw [hg]; rfl, rfl⟩
    simp at hp; omega
  · refine .inr (.inr ⟨?_, by rw [hg]; simp; omega, by unfold cmpI; simp [h1]; omega⟩)
    have : decide (0 < Z.natAbs) = true := by simp; omega
    rw [this] at hp; simpa using hp

theorem IsI.sgn {w : World} {g : Bool} {p : Option Addr} {n c : Nat} {Z : Int} (h : IsI w g p n c Z) : (g = true ∧ Z < 0) ∨ (g = false ∧ 0 ≤ Z) := by
  have hg := h.2
  by_cases h1 : Z < 0
  · exact .inl ⟨by rw [hg]; simpa using h1, h1⟩
  · exact .inr ⟨by rw [hg]; simpa using h1, by omega⟩

theorem boxed {w w1 : World} {G : Nat} {u v : Value} (hg : w.grownBy w1 none) (hG : w.heap.size ≤ G) : w.grownBy ((w1.setCell ⟨G, 0, none⟩ u).setCell ⟨G, 1, none⟩ v) none :=
  grown_new hg (grown_trans (grown_setCell w1 ⟨G, 0, none⟩ u) (grown_setCell _ ⟨G, 1, none⟩ v)) (fun g e => by cases e; exact hG)

set_option maxHeartbeats 2000000 in
theorem rSign_any {w : World} {g : Bool} {p : Option Addr} {n c : Nat} {Z : Int} (hA : IsZ w g p n c Z) (hn : n ≤ 400000) :
    Calls Tryd.prog 72 #[.agg #[.bool g, .slice p n c]] w fun e w' => e = .returned (.int .i64 (cmpI Z 0)) ∧ w.grownBy w' none := by
  have hg1 := World.grownBy_alloc w (.cells #[.bool g, .slice p n c] 25) none
  go_enter Tryd.func72, Tryd.ntmps72
  go_wp2_with fail
  refine (rNorm_any (hA.keep hg1) hn).mono ?_
  rintro e w1 ⟨g1, p1, n1, c1, rfl, h1, hn1, hg⟩
  have hc1 := gcell hg
  have hf1 := gfree hg
  have hz1 := hg.size
  simp at hz1
  have HG := hid (fun u v => boxed (u := u) (v := v) (grown_trans hg1 hg) (Nat.le_refl _))
  have hs := h1.sort
  clear h1 hA hn hn1
  rcases hs with ⟨rfl, rfl, hr⟩ | ⟨h0, rfl, hr⟩ | ⟨h0, rfl, hr⟩
  · have HR := hid hr
    clear hr
    go_wp2
    go_ret
    exact ⟨by rw [HR.out]; rfl, HG.out _ _⟩
  all_goals
    have HR := hid hr
    clear hr
    have hne : ((n1 : Int) == 0) = false := by simp; omega
    go_wp2
    go_ret
    exact ⟨by rw [HR.out]; rfl, HG.out _ _⟩

/-- two integers are stored into two boxes, one after the other -/
theorem two_set {w w5 : World} {G G2 : Nat} {x x2 : Bool} {y y2 : Option Addr} {a b a2 b2 : Nat} {T T2 : TypeId} {g h : Bool} {p q : Option Addr} {n c m d : Nat} {Q R : Int}
    (hb : w5.heap[G]? = some (.cells #[.bool x, .slice y a b] T (0, 0))) (hb2 : w5.heap[G2]? = some (.cells #[.bool x2, .slice y2 a2 b2] T2 (0, 0))) (hG : w.heap.size ≤ G) (hG2 : w.heap.size ≤ G2) (hne : G2 ≠ G)
    (hg : w.grownBy w5 none) (h5 : IsI w5 g p n c Q) (h6 : IsI w5 h q m d R) :
    ∃ W, ((((w5.setCell ⟨G, 0, none⟩ (.bool g)).setCell ⟨G, 1, none⟩ (.slice p n c)).setCell ⟨G2, 0, none⟩ (.bool h)).setCell ⟨G2, 1, none⟩ (.slice q m d)) = W ∧
      IsI W g p n c Q ∧ IsI W h q m d R ∧ w.grownBy W none ∧ W.cell? ⟨G, 0, none⟩ = some (.bool g) ∧ W.cell? ⟨G, 1, none⟩ = some (.slice p n c) ∧ W.cell? ⟨G2, 0, none⟩ = some (.bool h) ∧ W.cell? ⟨G2, 1, none⟩ = some (.slice q m d) := by
  have k0 := cell_of_row w5 G 0 _ _ _ hb
  have k1 := cell_of_row w5 G 1 _ _ _ hb
  have k2 := cell_of_row w5 G2 0 _ _ _ hb2
  have k3 := cell_of_row w5 G2 1 _ _ _ hb2
  simp at k0 k1 k2 k3
  have hne2 : G ≠ G2 := fun e => hne e.symm
  have h56 : w5.grownBy ((w5.setCell ⟨G, 0, none⟩ (.bool g)).setCell ⟨G, 1, none⟩ (.slice p n c)) (some G) := grown_trans (grown_setCell _ _ _) (grown_setCell _ ⟨G, 1, none⟩ _)
  have hb3 := (h56.block G2 (lt_of_block hb2) (by simpa using hne)).trans hb2
  have h67 : ((w5.setCell ⟨G, 0, none⟩ (.bool g)).setCell ⟨G, 1, none⟩ (.slice p n c)).grownBy ((((w5.setCell ⟨G, 0, none⟩ (.bool g)).setCell ⟨G, 1, none⟩ (.slice p n c)).setCell ⟨G2, 0, none⟩ (.bool h)).setCell ⟨G2, 1, none⟩ (.slice q m d)) (some G2) := grown_trans (grown_setCell _ _ _) (grown_setCell _ ⟨G2, 1, none⟩ _)
  refine ⟨_, rfl, (h5.other hb h56).other hb3 h67, (h6.other hb h56).other hb3 h67, grown_new (grown_new hg h56 (fun g e => by cases e; exact hG)) h67 (fun g e => by cases e; exact hG2), ?_, ?_, ?_, ?_⟩
  all_goals simp [go_sem, *]

set_option maxHeartbeats 4000000 in
theorem rCmp_any {w : World} {ga gb : Bool} {p q : Option Addr} {n c m d : Nat} {X Y : Int} (hA : IsZ w ga p n c X) (hB : IsZ w gb q m d Y) (hn : n ≤ 400000) (hm : m ≤ 400000) :
    Calls Tryd.prog 30 #[.agg #[.bool ga, .slice p n c], .agg #[.bool gb, .slice q m d]] w fun e w' => e = .returned (.int .i64 (cmpI X Y)) ∧ w.grownBy w' none := by
  have hg2 := grown_trans (World.grownBy_alloc w (.cells #[.bool ga, .slice p n c] 25) none) (World.grownBy_alloc _ (.cells #[.bool gb, .slice q m d] 25) none)
  have HA := hid (fun W (h : w.grownBy W none) => rNorm_any (hA.keep h) hn)
  have HB := hid (fun W (h : w.grownBy W none) => rNorm_any (hB.keep h) hm)
  go_enter Tryd.func30, Tryd.ntmps30
  go_wp2_with fail
  go_region_with (first
    | (go_at_call 53; (with_reducible refine (HA.out _ (grown_trans hg2 (grown_drew _ none))).mono ?_); rintro e w3 ⟨g3, p3, n3, c3, rfl, h3, hn3, hg3⟩; have hc3 := gcell hg3; have hf3 := gfree hg3; have hz3 := hg3.size; simp at hz3)
    | (go_at_call 53; (with_reducible refine (HB.out _ (grown_trans (grown_trans hg2 (grown_drew _ none)) hg3)).mono ?_); rintro e w4 ⟨g4, p4, n4, c4, rfl, h4, hn4, hg4⟩; have hg34 := grown_trans hg3 hg4; clear hc3 hf3 hz3; have hc4 := gcell hg34; have hf4 := gfree hg34; have hz4 := hg34.size; simp at hz4))
  all_goals
    have hb := (hg34.block w.heap.size (by simp; omega) (by simp)).trans ((Below.heap_alloc (w.alloc (.cells #[.bool ga, .slice p n c] 25)) (.cells #[.bool gb, .slice q m d] 25) w.heap.size (by simp)).trans (heap_alloc_new w (.cells #[.bool ga, .slice p n c] 25)))
    have hb2 := (hg34.block (w.heap.size + 1) (by simp) (by simp)).trans (second w (.cells #[.bool ga, .slice p n c] 25) (.cells #[.bool gb, .slice q m d] 25))
    obtain ⟨W, hWe, i3, i4, hgW, k0, k1, k2, k3⟩ := two_set hb hb2 (Nat.le_refl _) (by omega) (by omega) (grown_trans (grown_trans hg2 (grown_drew _ none)) hg34) (h3.keep hg4) h4
    rw [hWe]
    have C1 := hid (refCmp_n i3.1.isN i4.1.isN)
    have C2 := hid (refCmp_n i4.1.isN i3.1.isN)
    clear hWe hb hb2 hc4 hf4 hz4 h3 h4 hg3 hg34 hg4 HA HB hA hB
    rcases i3.sgn with ⟨rfl, sX⟩ | ⟨rfl, sX⟩
    · rcases i4.sgn with ⟨rfl, sY⟩ | ⟨rfl, sY⟩
      · have HE : Hid (cmpI (Y.natAbs : Nat) (X.natAbs : Nat) = cmpI X Y) := hid (by unfold cmpI; (repeat' split) <;> omega)
        clear sX sY i3 i4
        go_wp2_with fail
        refine C2.out.mono ?_
        rintro e w6 ⟨rfl, rfl⟩
        go_wp2_with fail
        go_ret
        exact ⟨by rw [← HE.out]; rfl, hgW⟩
      · have HE : Hid (cmpI X Y = -1) := hid (by unfold cmpI; (repeat' split) <;> omega)
        clear sX sY i3 i4
        go_wp2
        go_ret
        exact ⟨by rw [HE.out]; rfl, hgW⟩
    · rcases i4.sgn with ⟨rfl, sY⟩ | ⟨rfl, sY⟩
      · have HE : Hid (cmpI X Y = 1) := hid (by unfold cmpI; (repeat' split) <;> omega)
        clear sX sY i3 i4
        go_wp2
        go_ret
        exact ⟨by rw [HE.out]; rfl, hgW⟩
      · have HE : Hid (cmpI (X.natAbs : Nat) (Y.natAbs : Nat) = cmpI X Y) := hid (by unfold cmpI; (repeat' split) <;> omega)
        clear sX sY i3 i4
        go_wp2_with fail
        refine C1.out.mono ?_
        rintro e w6 ⟨rfl, rfl⟩
        go_wp2_with fail
        go_ret
        exact ⟨by rw [← HE.out]; rfl, hgW⟩
theorem rofat (x : Int) (N : Nat) (hx : x = (N : Int)) (hb : N < W64) (w : World) :
    Calls Tryd.prog 15 #[.int .u64 x] w fun e w' => ∃ p' n' c', e = .returned (.slice p' n' c') ∧ IsC w' p' n' c' N ∧ n' ≤ 4 ∧ w.grownBy w' none := by
  subst hx
  exact (refOf_any N hb w).mono fun e w' ⟨a, c, h1, h2, h3⟩ => ⟨a, _, c, h1, h2, dg_len4 hb, h3⟩

set_option maxHeartbeats 2000000 in
theorem rOfNeg {z : Int} {N : Nat} (hz : z = -(N : Int) - 1) (hb : N < 9223372036854775808) (w : World) :
    Calls Tryd.prog 34 #[.int .i64 z] w (IPost w z 9) := by
  have hneg : z < 0 := by omega
  have hg1 := World.grownBy_alloc w (.cells #[.bool false, .slice none 0 0] 25) none
  have hz1 : -9223372036854775808 ≤ z := by omega
  have HZ : Hid (-(z + 1) = (N : Int)) := hid (by omega)
  have HN := hid (show N < W64 from Nat.lt_trans hb (by decide))
  have HE := hid (show sg true (N + 1) = z by simp [sg]; omega)
  clear hz hb
  go_enter Tryd.func34, Tryd.ntmps34
  go_wp2_with fail
  refine (rofat _ N HZ.out HN.out _).mono ?_
  rintro e w2 ⟨p2, n2, c2, rfl, h2, hn2, hg⟩
  have hW := grown_trans hg1 hg
  have hgB := hg
  clear hg
  go_wp2_with fail
  refine (rofat _ 1 rfl (by decide) _).mono ?_
  rintro e w3 ⟨p3, n3, c3, rfl, h3, hn3, hg⟩
  replace h2 := h2.keep hg; replace hgB := grown_trans hgB hg; clear hg
  go_wp2_with fail
  refine (refAdd_n h2.isN h3.isN (by omega) (by omega)).mono ?_
  rintro e w4 ⟨p4, n4, c4, rfl, h4, hn4, hg⟩
  replace hgB := grown_trans hgB hg; clear hg
  go_wp2_with fail
  refine (rOf_any true h4.isN (by omega)).mono ?_
  rintro e w5 ⟨g5, p5, n5, c5, rfl, h5, hn5, hg⟩
  replace hgB := grown_trans hgB hg; clear hg
  have hc4 := gcell hgB
  have hf4 := gfree hgB
  have hz4 := hgB.size
  simp at hz4
  rw [HE.out] at h5
  go_wp2_with fail
  exact bodyPost_ret (v := .agg #[.bool g5, .slice p5 n5 c5]) (by simp [results, Tryd.results34, go_sem, hc4]) rfl (IPost.close hg1 (heap_alloc_new w _) (Nat.le_refl _) hgB h5 (by omega))

set_option maxHeartbeats 2000000 in
theorem rOfPos {z : Int} {N : Nat} (hz : z = (N : Int)) (hb : N < 9223372036854775808) (w : World) :
    Calls Tryd.prog 34 #[.int .i64 z] w (IPost w z 9) := by
  have hneg : ¬ z < 0 := by omega
  have hz1 : z ≤ 9223372036854775807 := by omega
  have hg1 := World.grownBy_alloc w (.cells #[.bool false, .slice none 0 0] 25) none
  have HZ := hid hz
  have HN := hid (show N < W64 from Nat.lt_trans hb (by decide))
  have HE := hid (show sg false N = z by simp [sg]; omega)
  clear hz hb
  go_enter Tryd.func34, Tryd.ntmps34
  go_wp2_with fail
  refine (rofat _ N (by first | exact HZ.out | (rw [IntKind.wrap_u64]; have := HZ.out; omega)) HN.out _).mono ?_
  rintro e w2 ⟨p2, n2, c2, rfl, h2, hn2, hg⟩
  have hgB := hg
  clear hg
  go_wp2_with fail
  refine (rOf_any false h2.isN (by omega)).mono ?_
  rintro e w5 ⟨g5, p5, n5, c5, rfl, h5, hn5, hg⟩
  replace hgB := grown_trans hgB hg; clear hg
  have hc4 := gcell hgB
  have hf4 := gfree hgB
  have hz4 := hgB.size
  simp at hz4
  rw [HE.out] at h5
  go_wp2_with fail
  exact bodyPost_ret (v := .agg #[.bool g5, .slice p5 n5 c5]) (by simp [results, Tryd.results34, go_sem, hc4]) rfl (IPost.close hg1 (heap_alloc_new w _) (Nat.le_refl _) hgB h5 (by omega))

theorem rOfI (z : Int) (w : World) (h1 : -9223372036854775808 ≤ z) (h2 : z ≤ 9223372036854775807) : Calls Tryd.prog 34 #[.int .i64 z] w (IPost w z 9) := by
  by_cases h : z < 0
  · exact (rOfNeg (N := (-(z + 1)).toNat) (by omega) (by omega) w).mono fun e w' ⟨g, p, n, c, h1, h2, h3, h4⟩ => ⟨g, p, n, c, h1, h2, h3, h4⟩
  · exact rOfPos (N := z.toNat) (by omega) (by omega) w
end Go.Proofs.YthkgldpcgmnaiaaDoor

set_option linter.unusedVariables false
set_option linter.unusedSimpArgs false
namespace Go.Proofs.YthkgldpcgmnaiaaDoor
open Go.RowKit Nm

theorem IsI.zero (w : World) : IsI w false none 0 0 0 := ⟨IsC.nil w, by simp⟩
theorem rn_zero : rn 0 1 = 0 := by unfold rn; simp [sg_zero]
theorem rd_zero : rd 0 1 = 1 := by unfold rd; simp

set_option maxHeartbeats 4000000 in
theorem over_any {w : World} {g : Bool} {p q : Option Addr} {n c m d D : Nat} {N : Int} (hA : IsZ w g p n c N) (hB : IsN w q m d D) (hn : n ≤ 300000) (hm : m ≤ 300000) :
    Calls Tryd.prog 33 #[.agg #[.bool g, .slice p n c], .slice q m d] w (LPost w (rn (pn N D) (pd D)) (rd (pn N D) (pd D)) n (m + 4)) := by
  have hb2 := grown_trans (World.grownBy_alloc w (.cells #[.bool g, .slice p n c] 25) none) (World.grownBy_alloc _ (.cells #[.bool false, .slice none 0 0, .slice none 0 0] 27) none)
  have H1 := hid (refNorm_n (hB.keep hb2) (by omega))
  by_cases e : D = 0
  · have e1 : pn N D = 0 := by unfold pn; rw [if_pos e]
    have e2 : pd D = 1 := by unfold pd; rw [if_pos e]
    rw [e1, e2, rn_zero, rd_zero]
    have HO := hid (fun W => refOf_c 1 (by unfold W64; omega) W)
    go_enter Tryd.func33, Tryd.ntmps33
    go_wp2_with fail
    refine H1.out.mono ?_
    rintro ee w1 ⟨p1, n1, c1, rfl, h1, hn1, hg1⟩
    obtain rfl : n1 = 0 := by
      rcases h1.zero_len with ⟨h, _⟩ | ⟨_, h⟩
      · exact h
      · omega
    go_wp2_with fail
    refine (HO.out _).mono ?_
    rintro ee w2 ⟨p2, n2, c2, rfl, h2, hn2, hg2⟩
    have hg := grown_trans hg1 hg2
    have hc := gcell hg
    have hf := gfree hg
    have hz := hg.size
    simp at hz
    go_wp2_with fail
    exact bodyPost_ret (v := .agg #[.bool false, .slice none 0 0, .slice p2 n2 c2]) (by simp [results, Tryd.results33, go_sem, hc]) rfl
      (LPost.close ((hg.block _ (by simp) (by simp)).trans (second w _ _)) (by omega) (grown_trans hb2 hg) (IsI.zero _) h2 (by omega) (by omega))
  · have e1 : pn N D = N := by unfold pn; rw [if_neg e]
    have e2 : pd D = D := by unfold pd; rw [if_neg e]
    rw [e1, e2]
    have HG := hid (fun W (h : w.grownBy W none) => refGcd_n (hA.1.keep h) (hB.keep h) (by omega) (by omega))
    unfold RPost at HG
    have GP : 0 < Nat.gcd N.natAbs D := Nat.gcd_pos_of_pos_right _ (by omega)
    have SF := hid (sg_flag hA (Nat.gcd N.natAbs D))
    obtain ⟨G, hG⟩ : ∃ G, G = Nat.gcd N.natAbs D := ⟨_, rfl⟩
    have HGE := hid hG
    rw [← hG] at HG GP SF
    clear hG
    have GPH := hid GP
    go_enter Tryd.func33, Tryd.ntmps33
    go_wp2_with fail
    refine H1.out.mono ?_
    rintro ee w1 ⟨p1, n1, c1, rfl, h1, hn1, hg1⟩
    have t0 : (((n1 : Int) == 0) = false) := beq_eq_false_iff_ne.2 (by rcases h1.zero_len with ⟨_, h⟩ | ⟨h, _⟩ <;> omega)
    clear h1
    have hc := gcell hg1
    have hf := gfree hg1
    have hz := hg1.size
    simp at hz
    go_wp2_with fail
    refine (HG.out _ (grown_trans hb2 hg1)).mono ?_
    rintro ee w2 ⟨p2, n2, c2, rfl, h2, hn2, hg2⟩
    replace hg2 := grown_trans hg1 hg2
    clear hc hf hz
    have hc := gcell hg2
    have hf := gfree hg2
    have hz := hg2.size
    simp at hz
    go_wp2_with fail
    refine (refDivMod_n (hA.1.keep (grown_trans hb2 hg2)) h2.isN (by omega) (by omega) GPH.out).mono ?_
    rintro ee w3 ⟨p3, n3, c3, p4, n4, c4, rfl, h3, h4, hn3, hn4, hg3⟩
    replace h2 := h2.keep hg3
    replace hg3 := grown_trans hg2 hg3
    clear hc hf hz
    have hc := gcell hg3
    have hf := gfree hg3
    have hz := hg3.size
    simp at hz
    go_wp2_with fail
    refine (refDivMod_n (hB.keep (grown_trans hb2 hg3)) h2.isN (by omega) (by omega) GPH.out).mono ?_
    rintro ee w4 ⟨p5, n5, c5, p6, n6, c6, rfl, h5, h6, hn5, hn6, hg4⟩
    replace h3 := h3.keep hg4
    replace hg4 := grown_trans hg3 hg4
    clear hc hf hz
    have hc := gcell hg4
    have hf := gfree hg4
    have hz := hg4.size
    simp at hz
    go_wp2_with fail
    refine (rNorm_any (IsZ.mk g h3.isN) (by omega)).mono ?_
    rintro ee w5 ⟨g7, p7, n7, c7, rfl, h7, hn7, hg5⟩
    replace h5 := h5.keep hg5
    replace hg5 := grown_trans hg4 hg5
    clear hc hf hz
    have hc := gcell hg5
    have hf := gfree hg5
    have hz := hg5.size
    simp at hz
    go_wp2_with fail
    exact bodyPost_ret (v := .agg #[.bool g7, .slice p7 n7 c7, .slice p5 n5 c5]) (by simp [results, Tryd.results33, go_sem, hc]) rfl
      (LPost.close ((hg5.block _ (by simp) (by simp)).trans (second w _ _)) (by omega) (grown_trans hb2 hg5) (by unfold rn; rw [← HGE.out, ← SF.out]; exact h7) (by unfold rd; rw [← HGE.out]; exact h5) (by omega) (by omega))

theorem norm3_any {w : World} {g : Bool} {p q : Option Addr} {n c m d D : Nat} {N : Int} (hA : IsZ w g p n c N) (hB : IsN w q m d D) (hn : n ≤ 300000) (hm : m ≤ 300000) :
    Calls Tryd.prog 29 #[.agg #[.bool g, .slice p n c, .slice q m d]] w (LPost w (rn (pn N D) (pd D)) (rd (pn N D) (pd D)) n (m + 4)) := by
  have hb2 := grown_trans (World.grownBy_alloc w (.cells #[.bool g, .slice p n c, .slice q m d] 27) none) (World.grownBy_alloc _ (.cells #[.bool false, .slice none 0 0, .slice none 0 0] 27) none)
  have HO := hid (over_any (hA.keep hb2) (hB.keep hb2) hn hm)
  generalize rn (pn N D) (pd D) = X at *
  generalize rd (pn N D) (pd D) = Y at *
  unfold LPost at HO
  go_enter Tryd.func29, Tryd.ntmps29
  go_wp2_with fail
  refine HO.out.mono ?_
  rintro ee w1 ⟨g1, p1, n1, c1, q1, m1, d1, rfl, h1, h2, hn1, hm1, hg⟩
  have hc := gcell hg
  have hf := gfree hg
  have hz := hg.size
  simp at hz
  go_wp2_with fail
  exact bodyPost_ret (v := .agg #[.bool g1, .slice p1 n1 c1, .slice q1 m1 d1]) (by simp [results, Tryd.results29, go_sem, hc]) rfl
    (LPost.close ((hg.block _ (by simp) (by simp)).trans (second w _ _)) (by omega) (grown_trans hb2 hg) h1 h2 hn1 hm1)
end Go.Proofs.YthkgldpcgmnaiaaDoor

set_option linter.unusedVariables false
set_option linter.unusedSimpArgs false
namespace Go.Proofs.YthkgldpcgmnaiaaDoor
open Go.RowKit Nm

set_option maxHeartbeats 2000000 in
theorem ratFrac_any {w : World} (T : Tb w) (x y : Int) (h0 : y ≠ 0) (hx1 : -9223372036854775808 ≤ x) (hx2 : x ≤ 9223372036854775807) (hy1 : -9223372036854775808 ≤ y) (hy2 : y ≤ 9223372036854775807) :
    Calls Tryd.prog 23 #[.int .i64 x, .int .i64 y] w (LPost w (rn (qn x y) y.natAbs) (rd (qn x y) y.natAbs) 4 5) := by
  have hb := World.grownBy_alloc w (.cells #[.bool false, .slice none 0 0, .slice none 0 0] 27) none
  have HX := hid (fun W => intOf_any x W hx1 hx2)
  have HY := hid (fun W => intOf_any y W hy1 hy2)
  have HT := hid T
  have H0 := hid h0
  have t0 : ((y == 0) = false) := beq_eq_false_iff_ne.2 h0
  unfold IPost at HX HY
  clear T h0 hx1 hx2 hy1 hy2
  go_enter Tryd.func23, Tryd.ntmps23
  go_wp2_with fail
  refine (HX.out _).mono ?_
  rintro ee w1 ⟨g1, p1, n1, c1, rfl, h1, hn1, hg1⟩
  go_wp2_with fail
  refine (HY.out _).mono ?_
  rintro ee w2 ⟨g2, p2, n2, c2, rfl, h2, hn2, hg2⟩
  replace h1 := h1.keep hg2
  replace hg2 := grown_trans hg1 hg2
  go_wp2_with fail
  refine (quotient_any (HT.out.keep (grown_trans hb hg2)) h1.z h2.z H0.out (by omega) (by omega)).mono ?_
  rintro ee w3 ⟨g3, p3, n3, c3, q3, m3, d3, rfl, h3, k3, hn3, hm3, hg3⟩
  replace hg3 := grown_trans hg2 hg3
  have hbr := (hg3.block w.heap.size (by simp) (by simp)).trans (heap_alloc_new w _)
  obtain ⟨l0, l1, l2, m0, m1', m2'⟩ := ratbox_facts hbr
  go_wp2_with fail
  exact bodyPost_ret (v := .agg #[.bool g3, .slice p3 n3 c3, .slice q3 m3 d3]) (by simp [results, Tryd.results23, go_sem, l0, l1, l2, m0, m1', m2']) rfl
    (LPost.close hbr (by omega) (grown_trans hb hg3) h3 k3 (by omega) (by omega))

end Go.Proofs.YthkgldpcgmnaiaaDoor

set_option linter.unusedVariables false
set_option linter.unusedSimpArgs false
namespace Go.Proofs.YthkgldpcgmnaiaaDoor
open Go.ChangeShapes Go.WideShapes Go.ChangeAt Go.RowKit Nm

theorem own1 : ownKnob Tryd.prog.godebug = none := by kernel_rfl
theorem laidOut1 : laidOutB Tryd.prog = true := by kernel_rfl
theorem cells16 : Tryd.prog.cellsOf 47 = 1 := by kernel_rfl
theorem readNat : Tryd.prog.readableRec 23 = true := by kernel_rfl
theorem rowNat : 23 < Tryd.prog.types.size := of_decide_eq_true (by kernel_rfl)

section
variable {H : Type} {enc : TypeId × Value → H} {W : World} {v : Value} {d : DataW H} {ps : List MemPlace}
set_option maxRecDepth 100000 in
theorem open_nat (hval : Value.okWide Tryd.prog W .any 0 23 v) (h0 : DataW.Trod enc Tryd.prog W 0 (fun _ => true) true 23 v d ps) :
    ∃ a n c xs, v = .slice a n c ∧ IRd W .u16 a n c xs ∧ Dg 65536 xs := by
  obtain ⟨a0, len, cap, rfl⟩ := okWide_slice Tryd.underlying23 hval
  obtain ⟨fuel, hf⟩ := h0
  refine ⟨a0, len, cap, ?_⟩
  rcases open_ints Tryd.underlying23 Tryd.underlying47 cells16 hf with ⟨hcs, hx⟩ | ⟨a, len', cap', zs, hcs, _, hl, hm, hz, hx, hcell, hwz⟩
  · simp [Value.cells] at hcs
    obtain ⟨rfl, rfl, rfl⟩ := hcs
    exact ⟨[], rfl, IRd.nil W _, Dg.nil⟩
  · simp [Value.cells] at hcs
    obtain ⟨rfl, rfl, rfl⟩ := hcs
    simp only [if_true] at hz
    have hb : ∀ z ∈ zs, 0 ≤ z ∧ z ≤ 65535 := fun z hzm => bounds_u16 (hwz z hzm)
    refine ⟨(zs.take len).map Int.toNat, rfl, ⟨by simp; omega, hl, by unfold maxLen at hm; omega, fun j hj => ?_⟩, fun x hx' => ?_⟩
    · have hj' : j < len := by simp at hj; omega
      have hc := hcell j (by omega)
      have hg : zs.getD j 0 = zs[j]'(by omega) := by simp [List.getD, List.getElem?_eq_getElem (show j < zs.length by omega)]
      have hsp := World.cell?_spot (hcell 0 (by omega))
      have ha : ∃ b o, a = ⟨b, o, none⟩ := ⟨a.block, a.off, by
        cases a with
        | mk b o s => simp [Addr.add] at hsp; simp [hsp]⟩
      obtain ⟨b, o, rfl⟩ := ha
      refine ⟨b, o, rfl, ?_⟩
      rw [add_addr] at hc
      rw [hc, hg]
      have := hb _ (List.getElem_mem (show j < zs.length by omega))
      simp only [List.getElem_map, List.getElem_take]
      congr 2; omega
    · obtain ⟨z, hz1, rfl⟩ := List.mem_map.1 hx'
      have := hb z (List.mem_of_mem_take hz1)
      omega
end
end Go.Proofs.YthkgldpcgmnaiaaDoor

set_option linter.unusedVariables false
set_option linter.unusedSimpArgs false
namespace Go.Proofs.YthkgldpcgmnaiaaDoor
open Go.ChangeShapes Go.WideShapes Go.ChangeAt Go.RowKit Nm

theorem readInt : Tryd.prog.readableRec 25 = true := by kernel_rfl
theorem rowInt : 25 < Tryd.prog.types.size := of_decide_eq_true (by kernel_rfl)
theorem cellsInt : Tryd.prog.cellsOf 25 = 2 := by kernel_rfl
theorem cellsNat : Tryd.prog.cellsOf 23 = 1 := by kernel_rfl
theorem cellsBool : Tryd.prog.cellsOf 4 = 1 := by kernel_rfl

section
variable {H : Type} {enc : TypeId × Value → H} {W : World} {v : Value} {d : DataW H} {ps : List MemPlace}
set_option maxRecDepth 100000 in
theorem open_natcs {fuel : Nat} {cs : List Value} {x : DataW H × List MemPlace} (hf : DataW.trod enc Tryd.prog W 0 (fun _ => true) true fuel 23 cs = some x) :
    ∃ a n c xs, cs = [.slice a n c] ∧ IRd W .u16 a n c xs ∧ Dg 65536 xs := by
  rcases open_ints Tryd.underlying23 Tryd.underlying47 cells16 hf with ⟨hcs, hx⟩ | ⟨a, len', cap', zs, hcs, _, hl, hm, hz, hx, hcell, hwz⟩
  · exact ⟨none, 0, 0, [], hcs, IRd.nil W _, Dg.nil⟩
  · simp only [if_true] at hz
    have hb : ∀ z ∈ zs, 0 ≤ z ∧ z ≤ 65535 := fun z hzm => bounds_u16 (hwz z hzm)
    refine ⟨some a, len', cap', (zs.take len').map Int.toNat, hcs, ⟨by simp; omega, hl, by unfold maxLen at hm; omega, fun j hj => ?_⟩, fun x hx' => ?_⟩
    · have hj' : j < len' := by simp at hj; omega
      have hc := hcell j (by omega)
      have hg : zs.getD j 0 = zs[j]'(by omega) := by simp [List.getD, List.getElem?_eq_getElem (show j < zs.length by omega)]
      have hsp := World.cell?_spot (hcell 0 (by omega))
      have ha : ∃ b o, a = ⟨b, o, none⟩ := ⟨a.block, a.off, by
        cases a with
        | mk b o s => simp [Addr.add] at hsp; simp [hsp]⟩
      obtain ⟨b, o, rfl⟩ := ha
      refine ⟨b, o, rfl, ?_⟩
      rw [add_addr] at hc
      rw [hc, hg]
      have := hb _ (List.getElem_mem (show j < zs.length by omega))
      simp only [List.getElem_map, List.getElem_take]
      congr 2; omega
    · obtain ⟨z, hz1, rfl⟩ := List.mem_map.1 hx'
      have := hb z (List.mem_of_mem_take hz1)
      omega

set_option maxRecDepth 100000 in
theorem open_Int (hval : Value.okWide Tryd.prog W .any 0 25 v) (h0 : DataW.Trod enc Tryd.prog W 0 (fun _ => true) true 25 v d ps) :
    ∃ g a n c xs, v = .agg #[.bool g, .slice a n c] ∧ IRd W .u16 a n c xs ∧ Dg 65536 xs := by
  obtain ⟨cs, rfl, hsz⟩ := okWide_struct Tryd.underlying25 hval
  obtain ⟨fuel, hf⟩ := h0
  obtain ⟨y0, y1, k, hx, hl, h0, h1⟩ := trod_struct2 Tryd.underlying25 hf
  rw [cellsInt] at hl
  obtain ⟨b, hb, _⟩ := DataW.trod_bool Tryd.underlying4 h0
  obtain ⟨a, n, c, xs, hs, hr, hd⟩ := open_natcs h1
  rw [cellsBool] at hb
  rw [cellsNat] at hs
  refine ⟨b, a, n, c, xs, ?_, hr, hd⟩
  simp only [Value.cells] at hl hb hs
  obtain ⟨l⟩ := cs
  match l, hl with
  | [u, v], _ =>
    simp at hb hs
    rw [hb, hs]
end
end Go.Proofs.YthkgldpcgmnaiaaDoor

set_option linter.unusedVariables false
set_option linter.unusedSimpArgs false
namespace Go.Proofs.YthkgldpcgmnaiaaDoor
open Go.ChangeShapes Go.WideShapes Go.ChangeAt Go.RowKit Nm

theorem readRat : Tryd.prog.readableRec 27 = true := by kernel_rfl
theorem rowRat : 27 < Tryd.prog.types.size := of_decide_eq_true (by kernel_rfl)
theorem cellsRat : Tryd.prog.cellsOf 27 = 3 := by kernel_rfl

section
variable {H : Type} {enc : TypeId × Value → H} {W : World} {v : Value} {d : DataW H} {ps : List MemPlace}
set_option maxRecDepth 100000 in
theorem open_Intcs {fuel : Nat} {cs : List Value} {x : DataW H × List MemPlace} (hf : DataW.trod enc Tryd.prog W 0 (fun _ => true) true fuel 25 cs = some x) (hl : cs.length = 2) :
    ∃ g a n c xs, cs = [.bool g, .slice a n c] ∧ IRd W .u16 a n c xs ∧ Dg 65536 xs := by
  obtain ⟨y0, y1, k, hx, _, h0, h1⟩ := trod_struct2 Tryd.underlying25 hf
  obtain ⟨b, hb, _⟩ := DataW.trod_bool Tryd.underlying4 h0
  obtain ⟨a, n, c, xs, hs, hr, hd⟩ := open_natcs h1
  rw [cellsBool] at hb
  rw [cellsNat] at hs
  refine ⟨b, a, n, c, xs, ?_, hr, hd⟩
  match cs, hl with
  | [u, v], _ =>
    simp at hb hs
    rw [hb, hs]

set_option maxRecDepth 100000 in
theorem open_Rat (hval : Value.okWide Tryd.prog W .any 0 27 v) (h0 : DataW.Trod enc Tryd.prog W 0 (fun _ => true) true 27 v d ps) :
    ∃ g a n c xs b m e ys, v = .agg #[.bool g, .slice a n c, .slice b m e] ∧ IRd W .u16 a n c xs ∧ Dg 65536 xs ∧ IRd W .u16 b m e ys ∧ Dg 65536 ys := by
  obtain ⟨cs, rfl, hsz⟩ := okWide_struct Tryd.underlying27 hval
  obtain ⟨fuel, hf⟩ := h0
  obtain ⟨y0, y1, k, hx, hl, h0, h1⟩ := trod_struct2 Tryd.underlying27 hf
  rw [cellsRat] at hl
  rw [cellsInt] at h0
  simp only [Value.cells] at hl h0 h1
  obtain ⟨l⟩ := cs
  match l, hl with
  | [u, v, t], _ =>
    obtain ⟨g, a, n, c, xs, hs, hr, hd⟩ := open_Intcs h0 (by simp)
    obtain ⟨b, m, e, ys, hs1, hr1, hd1⟩ := open_natcs h1
    rw [cellsNat] at hs1
    simp at hs hs1
    refine ⟨g, a, n, c, xs, b, m, e, ys, ?_, hr, hd, hr1, hd1⟩
    obtain ⟨rfl, rfl⟩ := hs
    rw [hs1]
end
end Go.Proofs.YthkgldpcgmnaiaaDoor

set_option linter.unusedVariables false
set_option linter.unusedSimpArgs false
namespace Go.Proofs.YthkgldpcgmnaiaaDoor
open Go.ChangeShapes Go.WideShapes Go.ChangeAt Go.RowKit Nm

theorem gTab : Tryd.prog.globalNamed "math/bits.deBruijn64tab" = some 0 := by kernel_rfl
theorem tTab : (Tryd.prog.globals[0]?).map (·.type) = some 102 := by kernel_rfl
theorem tab_data : (Rows.laid_math_bits_deBruijn64tab : DataW Unit) = Lib.tabData .u8 (Lib.deBruijn64tab.map Int.ofNat) := by rfl
theorem tb_of_tab {W : World} (h : Lib.TabIs Tryd.prog W "math/bits.deBruijn64tab" .u8 (Lib.deBruijn64tab.map Int.ofNat)) : Tb W := by
  intro j hj
  have hl : (Lib.deBruijn64tab.map Int.ofNat).length = 64 := by rfl
  have := h.cell gTab j (by omega)
  rw [this]
  congr 2
  have hl2 : Lib.deBruijn64tab.length = 64 := by rfl
  simp [List.getD, hl2, hj]
theorem tb_of_laid {W : World} (h : laidMetH Tryd.prog [("math/bits.deBruijn64tab", Rows.laid_math_bits_deBruijn64tab)] W) : Tb W := by
  rw [MakeChecks.laidMetH_plain _ _ _ (by kernel_rfl), tab_data] at h
  exact tb_of_tab (Lib.tabIs_of_head gTab tTab Tryd.underlying102 Tryd.underlying5 (by kernel_rfl) (by kernel_rfl) h)
end Go.Proofs.YthkgldpcgmnaiaaDoor

set_option linter.unusedVariables false
set_option linter.unusedSimpArgs false
namespace Go.Proofs.YthkgldpcgmnaiaaDoor
open Go.RowKit Nm

theorem floor_q {N : Int} {D : Nat} (hD : 0 < D) : N / (D : Int) = (mkRat N D).floor := by
  have hD' : (0 : Rat) < (D : Rat) := Rat.natCast_pos.2 hD
  have key : ∀ z : Int, z ≤ N / (D : Int) ↔ z ≤ (mkRat N D).floor := by
    intro z
    rw [Int.le_ediv_iff_mul_le (by omega), Rat.le_floor_iff, Rat.mkRat_eq_div, ← Rat.not_lt (a := (N : Rat) / (D : Rat)), Rat.div_lt_iff hD', Rat.not_lt, ← Rat.intCast_le_intCast, Rat.intCast_mul, Rat.intCast_natCast]
  have h1 := (key (N / (D : Int))).1 (Int.le_refl _)
  have h2 := (key (mkRat N D).floor).2 (Int.le_refl _)
  omega

theorem IsQ.of {w : World} {a b : Option Addr} {n c m d : Nat} {xs ys : List Nat} (g : Bool) (h : IRd w .u16 a n c xs) (hx : Dg 65536 xs) (k : IRd w .u16 b m d ys) (hy : Dg 65536 ys) : IsQ w g a n c b m d (mkRat (sg g (V 65536 xs)) (V 65536 ys)) :=
  ⟨_, _, IsZ.of g h hx, IsN.of k hy, rfl⟩
theorem IsV.of_int {w : World} {g : Bool} {p q : Option Addr} {n c m d : Nat} {Z : Int} (h : IsI w g p n c Z) (k : IsC w q m d 1) : IsV w g p n c q m d (Z : Rat) := ⟨by rw [Rat.num_intCast]; exact h, by rw [Rat.den_intCast]; exact k⟩
theorem cmpR_bd (v u : Rat) : -1 ≤ cmpR v u ∧ cmpR v u ≤ 1 := by rcases cmpR_bound v u with h | h | h <;> omega
theorem wrap_sg1 {x : Int} (hx : -1 ≤ x ∧ x ≤ 1) : IntKind.i64.wrap x = x := by
  obtain rfl | rfl | rfl : x = -1 ∨ x = 0 ∨ x = 1 := by omega
  all_goals decide
theorem wrap_sg2 {x y : Int} (hx : -1 ≤ x ∧ x ≤ 1) (hy : -1 ≤ y ∧ y ≤ 1) : IntKind.i64.wrap (x * y) = x * y := by
  obtain rfl | rfl | rfl : x = -1 ∨ x = 0 ∨ x = 1 := by omega
  all_goals obtain rfl | rfl | rfl : y = -1 ∨ y = 0 ∨ y = 1 := by omega
  all_goals decide
theorem eq_cmpR (v u : Rat) : decide (v = u) = (cmpR v u == 0) := by
  by_cases h : v = u
  · rw [decide_eq_true h, cmpR_zero.2 h]; rfl
  · rw [decide_eq_false h]; exact (beq_eq_false_iff_ne.2 (fun k => h (cmpR_zero.1 k))).symm

set_option maxRecDepth 20000 in
set_option maxHeartbeats 4000000 in
theorem ratOf_v (z : Int) (w : World) (h1 : -9223372036854775808 ≤ z) (h2 : z ≤ 9223372036854775807) :
    Calls Tryd.prog 8 #[.int .i64 z] w (VPost w (z : Rat) 4) := by
  have l1 : (dg 65536 1).length = 1 := by rw [dg_step 1 (by omega)]; simp [dg_zero]
  have HL := hid l1
  clear l1
  have hW := (World.grownBy_alloc w (.cells #[.bool false, .slice none 0 0, .slice none 0 0] 27) none)
  have bx0 : (w.alloc (.cells #[.bool false, .slice none 0 0, .slice none 0 0] 27)).heap[w.heap.size]? = some (.cells #[.bool false, .slice none 0 0, .slice none 0 0] 27 (0, 0)) := by
    have := heap_alloc_new w (.cells #[.bool false, .slice none 0 0, .slice none 0 0] 27)
    simpa using this
  skip
  go_enter Tryd.func8, Tryd.ntmps8
  go_wp2_with fail
  generalize (w.alloc (.cells #[.bool false, .slice none 0 0, .slice none 0 0] 27)) = w0 at *
  refine (intOf_any z _ h1 h2).mono ?_
  rintro ee v1 ⟨g1, p1, n1, c1, rfl, hX, hn1, hg⟩
  replace bx0 := (hg.block _ (lt_of_block bx0) (by simp)).trans bx0; replace hW := grown_trans hW hg
  clear hg
  go_wp2_with fail
  refine (of_at 1 1 rfl (by unfold W64; omega) _).mono ?_
  rintro ee v2 ⟨q1, d1, rfl, hY, hg⟩
  replace hX := hX.keep hg; replace bx0 := (hg.block _ (lt_of_block bx0) (by simp)).trans bx0; replace hW := grown_trans hW hg
  clear hg
  have hY2 : IsC v2 q1 (dg 65536 1).length d1 1 := hY
  obtain ⟨l0, l1, l2, f0, f1, f2⟩ := ratbox_facts bx0
  go_wp2_with fail
  exact bodyPost_ret (v := .agg #[.bool g1, .slice p1 n1 c1, .slice q1 (dg 65536 1).length d1]) (by simp [results, Tryd.results8, go_sem, l0, l1, l2, f0, f1, f2]) rfl
    (VPost.close bx0 (by omega) hW (IsV.of_int hX hY2) (by omega) (by rw [HL.out]; omega))
end Go.Proofs.YthkgldpcgmnaiaaDoor
