/-
  RatA RatB RatC RatE ShL RootA Root RatF RatV RatL RatM RatO IntRB RatD RatR, in one text.
-/
import Derived.Test.YtjpkncgfpbhnaaaGreatDoorMrI
import Derived.Deep.RegionHeld3
import Derived.Deep.DeepCutAuto
import Derived.Test.YtjpkncgfpbhnaaaGreatDoorMrN
import Derived.Laws.BitsAllLaws
set_option linter.unusedVariables false
set_option linter.unusedSimpArgs false
set_option maxRecDepth 100000
namespace Go.Proofs.YtjpkncgfpbhnaaaGreatDoor
open Go.RowKit Nm
def rn (N : Int) (D : Nat) : Int := sg (decide (N < 0)) (N.natAbs / Nat.gcd N.natAbs D)
def rd (N : Int) (D : Nat) : Nat := D / Nat.gcd N.natAbs D
theorem one_word {xs : List Nat} (hd : Dg 65536 xs) (h : V 65536 xs = 1) : (trimR xs).length = 1 := by
  rw [trimR_dg (by omega) hd, h, dg_step 1 (by omega)]
  simp [dg_zero]
theorem sizeOf_any {w : World} {p : Option Addr} {n c N : Nat} (h : IsN w p n c N) :
    Calls Tryz.prog 186 #[.slice p n c] w fun e w' => ∃ (x : Nat) (b : Bool), e = .returned (.agg #[.int .u64 x, .bool b]) ∧ (N = 1 → x = 1 ∧ b = true) ∧ (N ≠ 1 → ¬ (x = 1 ∧ b = true)) ∧ w.grownBy w' none := by
  obtain ⟨L, h1, h2, rfl⟩ := h
  have hgb := World.grownBy_alloc w (.cells #[.int .u64 0, .bool false] 219) none
  have HU := hid (natUint_any p n c L _ (h1.keep hgb) h2)
  have E1 : V 65536 L = 1 → (if (trimR L).length ≤ 4 then V 65536 L else 0) = 1 ∧ decide ((trimR L).length ≤ 4) = true := by
    intro e
    have := one_word h2 e
    rw [if_pos (by omega)]
    exact ⟨e, decide_eq_true (by omega)⟩
  have E2 : V 65536 L ≠ 1 → ¬ ((if (trimR L).length ≤ 4 then V 65536 L else 0) = 1 ∧ decide ((trimR L).length ≤ 4) = true) := by
    rintro e ⟨h3, h4⟩
    rw [if_pos (of_decide_eq_true h4)] at h3
    exact e h3
  generalize (if (trimR L).length ≤ 4 then V 65536 L else 0) = x at *
  generalize decide ((trimR L).length ≤ 4) = b at *
  replace E1 := hid E1
  replace E2 := hid E2
  clear h1 h2
  go_enter Tryz.func186, Tryz.ntmps186
  go_wp2_with (go_at_call 226; (with_reducible refine HU.out.mono ?_); rintro e w' ⟨rfl, rfl⟩)
  exact bodyPost_ret (v := .agg #[.int .u64 x, .bool b]) (by simp [results, Tryz.results186, go_sem]) rfl ⟨x, b, rfl, E1.out, E2.out, World.grownBy_alloc w _ none⟩
theorem isOne_any {w : World} {p : Option Addr} {n c N : Nat} (h : IsN w p n c N) :
    Calls Tryz.prog 136 #[.slice p n c] w fun e w' => e = .returned (.bool (decide (N = 1))) ∧ w.grownBy w' none := by
  have HU := hid (sizeOf_any h)
  by_cases e : N = 1
  · rw [decide_eq_true e]
    go_enter Tryz.func136, Tryz.ntmps136
    go_wp2_with (go_at_call 186; (with_reducible refine HU.out.mono ?_); rintro ee w' ⟨x, b, rfl, h1, h2, hg⟩; obtain ⟨rfl, rfl⟩ := h1 e; clear h1 h2)
    go_ret
    exact ⟨rfl, hg⟩
  · rw [decide_eq_false e]
    go_enter Tryz.func136, Tryz.ntmps136
    go_wp2_with (go_at_call 186; (with_reducible refine HU.out.mono ?_); rintro ee w' ⟨x, b, rfl, h1, h2, hg⟩; replace h2 := h2 e; clear h1)
    all_goals
      first
        | (go_ret; exact ⟨rfl, hg⟩)
        | (rename_i h4 h3; exact absurd ⟨by omega, by simpa using h4⟩ h2)
        | (rename_i h3 h4; exact absurd ⟨by omega, by simpa using h4⟩ h2)
theorem three_cells (x : Bool) (y z : Option Addr) (a b c d j : Nat) (k : IntKind) (t : Int) : (#[Value.bool x, Value.slice y a b, Value.slice z c d])[j]? ≠ some (.int k t) := by
  match j with
  | 0 => simp
  | 1 => simp
  | 2 => simp
  | j + 3 => simp
theorem set3_grown (w : World) (G : Nat) (a b c : Value) : w.grownBy (((w.setCell ⟨G, 0, none⟩ a).setCell ⟨G, 1, none⟩ b).setCell ⟨G, 2, none⟩ c) (some G) :=
  grown_trans (grown_trans (grown_setCell w ⟨G, 0, none⟩ a) (grown_setCell _ ⟨G, 1, none⟩ b)) (grown_setCell _ ⟨G, 2, none⟩ c)
theorem IsC.other3 {w w' : World} {p : Option Addr} {n c N G : Nat} {x : Bool} {y z : Option Addr} {a b e f : Nat} {T : TypeId} (h : IsC w p n c N) (hb : w.heap[G]? = some (.cells #[.bool x, .slice y a b, .slice z e f] T (0, 0))) (hg : w.grownBy w' (some G)) : IsC w' p n c N :=
  IRd.other h hb (fun j t => three_cells x y z a b e f j _ t) hg
theorem IsN.other2 {w w' : World} {p : Option Addr} {n c N G : Nat} {x : Bool} {y : Option Addr} {a b : Nat} {T : TypeId} (h : IsN w p n c N) (hb : w.heap[G]? = some (.cells #[.bool x, .slice y a b] T (0, 0))) (hg : w.grownBy w' (some G)) : IsN w' p n c N :=
  let ⟨L, h1, h2⟩ := h; ⟨L, IRd.other h1 hb (fun j t => two_cells x y a b j _ t) hg, h2⟩
theorem IsC.other2 {w w' : World} {p : Option Addr} {n c N G : Nat} {x : Bool} {y : Option Addr} {a b : Nat} {T : TypeId} (h : IsC w p n c N) (hb : w.heap[G]? = some (.cells #[.bool x, .slice y a b] T (0, 0))) (hg : w.grownBy w' (some G)) : IsC w' p n c N :=
  IRd.other h hb (fun j t => two_cells x y a b j _ t) hg
theorem IsZ.other2 {w w' : World} {g : Bool} {p : Option Addr} {n c G : Nat} {Z : Int} {x : Bool} {y : Option Addr} {a b : Nat} {T : TypeId} (h : IsZ w g p n c Z) (hb : w.heap[G]? = some (.cells #[.bool x, .slice y a b] T (0, 0))) (hg : w.grownBy w' (some G)) : IsZ w' g p n c Z :=
  ⟨h.1.other2 hb hg, h.2⟩
theorem ratbox_facts {w : World} {G : Nat} {x : Bool} {y z : Option Addr} {a b e f : Nat} {T : TypeId} (hb : w.heap[G]? = some (.cells #[.bool x, .slice y a b, .slice z e f] T (0, 0))) :
    w.cell? ⟨G, 0, none⟩ = some (.bool x) ∧ w.cell? ⟨G, 1, none⟩ = some (.slice y a b) ∧ w.cell? ⟨G, 2, none⟩ = some (.slice z e f) ∧ w.frozen? ⟨G, 0, none⟩ = false ∧ w.frozen? ⟨G, 1, none⟩ = false ∧ w.frozen? ⟨G, 2, none⟩ = false := by
  have k0 := cell_of_row w G 0 _ _ _ hb
  have k1 := cell_of_row w G 1 _ _ _ hb
  have k2 := cell_of_row w G 2 _ _ _ hb
  simp at k0 k1 k2
  exact ⟨k0, k1, k2, frozen_of_row w G 0 _ _ hb, frozen_of_row w G 1 _ _ hb, frozen_of_row w G 2 _ _ hb⟩
def LPost (w : World) (X : Int) (Y : Nat) (n m : Nat) (e : Ending) (w' : World) : Prop :=
  ∃ (g : Bool) (p : Option Addr) (n' c : Nat) (q : Option Addr) (m' d : Nat), e = .returned (.agg #[.bool g, .slice p n' c, .slice q m' d]) ∧ IsI w' g p n' c X ∧ IsC w' q m' d Y ∧ n' ≤ n ∧ m' ≤ m ∧ w.grownBy w' none
theorem LPost.close {w w5 : World} {G : Nat} {x : Bool} {y z : Option Addr} {a b e f : Nat} {T : TypeId} {g : Bool} {p q : Option Addr} {n' c m' d n m : Nat} {X : Int} {Y : Nat}
    (hW : w5.heap[G]? = some (.cells #[.bool x, .slice y a b, .slice z e f] T (0, 0))) (hG : w.heap.size ≤ G) (hg : w.grownBy w5 none) (h1 : IsI w5 g p n' c X) (h2 : IsC w5 q m' d Y) (hn : n' ≤ n) (hm : m' ≤ m) :
    LPost w X Y n m (.returned (.agg #[.bool g, .slice p n' c, .slice q m' d])) (((w5.setCell ⟨G, 0, none⟩ (.bool g)).setCell ⟨G, 1, none⟩ (.slice p n' c)).setCell ⟨G, 2, none⟩ (.slice q m' d)) := by
  have hs := set3_grown w5 G (.bool g) (.slice p n' c) (.slice q m' d)
  exact ⟨g, p, n', c, q, m', d, rfl, ⟨IsC.other3 h1.1 hW hs, h1.2⟩, h2.other3 hW hs, hn, hm, grown_new hg hs (fun g e => by cases e; exact hG)⟩
def pn (N : Int) (D : Nat) : Int := if D = 0 then 0 else N
def pd (D : Nat) : Nat := if D = 0 then 1 else D
theorem pd_pos (D : Nat) : 0 < pd D := by unfold pd; split <;> omega
def PtPost (w : World) (N : Int) (D n m : Nat) (e : Ending) (w' : World) : Prop :=
  ∃ (g : Bool) (p : Option Addr) (n' c : Nat) (q : Option Addr) (m' d : Nat), e = .returned (.tuple #[.agg #[.bool g, .slice p n' c], .slice q m' d]) ∧ IsZ w' g p n' c (pn N D) ∧ IsN w' q m' d (pd D) ∧ n' ≤ n + 4 ∧ m' ≤ m + 4 ∧ w.grownBy w' none
theorem bits_zero {N b : Nat} (hb : IsBits N b) : b = 0 ↔ N = 0 := by
  rcases hb with ⟨h1, h2⟩ | ⟨h1, h2, h3⟩
  · omega
  · have := Nat.pow_pos (n := b - 1) (show 0 < 2 by omega); omega
theorem PtPost.close {w w5 : World} {G : Nat} {x : Bool} {y : Option Addr} {a b : Nat} {T : TypeId} {g : Bool} {p q : Option Addr} {n' c m' d n m D : Nat} {N : Int}
    (hW : w5.heap[G]? = some (.cells #[.bool x, .slice y a b] T (0, 0))) (hG : w.heap.size ≤ G) (hg : w.grownBy w5 none) (h1 : IsZ w5 g p n' c (pn N D)) (h2 : IsN w5 q m' d (pd D)) (hn : n' ≤ n + 4) (hm : m' ≤ m + 4) :
    PtPost w N D n m (.returned (.tuple #[.agg #[.bool g, .slice p n' c], .slice q m' d])) ((w5.setCell ⟨G, 0, none⟩ (.bool g)).setCell ⟨G, 1, none⟩ (.slice p n' c)) := by
  have hs : w5.grownBy ((w5.setCell ⟨G, 0, none⟩ (.bool g)).setCell ⟨G, 1, none⟩ (.slice p n' c)) (some G) := grown_trans (grown_setCell w5 ⟨G, 0, none⟩ _) (grown_setCell _ ⟨G, 1, none⟩ _)
  exact ⟨g, p, n', c, q, m', d, rfl, h1.other2 hW hs, h2.other2 hW hs, hn, hm, grown_new hg hs (fun g e => by cases e; exact hG)⟩
set_option maxHeartbeats 2000000 in
theorem parts_any {w : World} {g : Bool} {p q : Option Addr} {n c m d D : Nat} {N : Int} (hA : IsZ w g p n c N) (hB : IsN w q m d D) (hn : n ≤ 400000) (hm : m ≤ 400000) :
    Calls Tryz.prog 150 #[.agg #[.bool g, .slice p n c, .slice q m d]] w (PtPost w N D n m) := by
  have hb2 := grown_trans (World.grownBy_alloc w (.cells #[.bool g, .slice p n c, .slice q m d] 35) none) (World.grownBy_alloc _ (.cells #[.bool false, .slice none 0 0] 33) none)
  have HB := hid (natBits_n (hB.keep hb2) (by omega))
  by_cases e : D = 0
  · have HO1 := hid (fun W => intOf_any 0 W (by omega) (by omega))
    have HO2 := hid (fun W => of_at 1 1 rfl (by unfold W64; omega) W)
    unfold IPost at HO1
    have e1 : pn N D = 0 := by unfold pn; rw [if_pos e]
    have e2 : pd D = 1 := by unfold pd; rw [if_pos e]
    have l1 : (dg 65536 1).length = 1 := by rw [dg_step 1 (by omega)]; simp [dg_zero]
    have L1 := hid l1
    clear l1
    go_enter Tryz.func150, Tryz.ntmps150
    go_wp2_with fail
    refine HB.out.mono ?_
    rintro ee w' ⟨b, hb, rfl, HI, rfl⟩
    obtain rfl := (bits_zero HI.out).2 e
    go_wp2_with fail
    refine (HO1.out _).mono ?_
    rintro ee w1 ⟨g1, p1, n1, c1, rfl, h1, hn1, hg1⟩
    go_wp2_with fail
    refine (HO2.out _).mono ?_
    rintro ee w2 ⟨p2, c2, rfl, h2, hg2⟩
    have hg := grown_trans hg1 hg2
    have hc := gcell hg
    have hf := gfree hg
    have hz := hg.size
    simp at hz
    replace h1 := h1.keep hg2
    go_wp2_with fail
    exact bodyPost_ret (v := .tuple #[.agg #[.bool g1, .slice p1 n1 c1], .slice p2 (dg 65536 1).length c2]) (by simp [results, Tryz.results150, go_sem, hc]) rfl
      (PtPost.close ((hg.block _ (by simp) (by simp)).trans (second w _ _)) (by omega) (grown_trans hb2 hg) (by rw [e1]; exact h1.z) (by rw [e2]; exact IsC.isN h2) (by omega) (by rw [L1.out]; omega))
  · have e1 : pn N D = N := by unfold pn; rw [if_neg e]
    have e2 : pd D = D := by unfold pd; rw [if_neg e]
    go_enter Tryz.func150, Tryz.ntmps150
    go_wp2_with fail
    refine HB.out.mono ?_
    rintro ee w' ⟨b, hb, rfl, HI, rfl⟩
    have t0 : (((b : Int) == 0) = false) := beq_eq_false_iff_ne.2 (by have := (bits_zero HI.out).1; omega)
    go_wp2_with fail
    go_region
    all_goals go_wp2
    all_goals
      have hb3 := grown_trans (grown_trans (World.grownBy_alloc w (.cells #[.bool g, .slice p n c, .slice q m d] 35) none) (World.grownBy_alloc _ (.cells #[.bool g, .slice p n c] 33) none)) (grown_drew _ none)
      exact bodyPost_ret (v := .tuple #[.agg #[.bool g, .slice p n c], .slice q m d]) (by simp [results, Tryz.results150, go_sem]) rfl
        ⟨g, p, n, c, q, m, d, rfl, by rw [e1]; exact hA.keep hb3, by rw [e2]; exact hB.keep hb3, by omega, by omega, hb3⟩
theorem IsZ.mk {w : World} {p : Option Addr} {n c M : Nat} (g : Bool) (h : IsN w p n c M) : IsZ w g p n c (sg g M) := ⟨by rw [sg_abs]; exact h, by rw [sg_abs]⟩
theorem sg_flag {w : World} {g : Bool} {p : Option Addr} {n c : Nat} {N : Int} (h : IsZ w g p n c N) (k : Nat) : sg g (N.natAbs / k) = sg (decide (N < 0)) (N.natAbs / k) := by
  have e := h.2
  by_cases h0 : N.natAbs = 0
  · rw [h0]; simp [sg_zero]
  · cases g
    · rw [sg_false] at e
      rw [decide_eq_false (by omega)]
    · rw [sg_true] at e
      rw [decide_eq_true (by omega)]
theorem sg_self (N : Int) : sg (decide (N < 0)) N.natAbs = N := by
  by_cases h : N < 0
  · rw [decide_eq_true h, sg_true]; omega
  · rw [decide_eq_false h, sg_false]; omega
theorem rn_one {N : Int} {D : Nat} (h : Nat.gcd N.natAbs D = 1) : rn N D = N := by unfold rn; rw [h, Nat.div_one, sg_self]
theorem rd_one {N : Int} {D : Nat} (h : Nat.gcd N.natAbs D = 1) : rd N D = D := by unfold rd; rw [h, Nat.div_one]
theorem first_of (w : World) (A B : Obj) : ((w.alloc A).alloc B).heap[w.heap.size]? = some A := (Below.heap_alloc (w.alloc A) B w.heap.size (by simp)).trans (heap_alloc_new w A)
set_option maxHeartbeats 4000000 in
theorem lowest_any {w : World} (T : Tb w) {g : Bool} {p q : Option Addr} {n c m d D : Nat} {N : Int} (hA : IsZ w g p n c N) (hB : IsN w q m d D) (hD : 0 < D) (hn : n ≤ 300000) (hm : m ≤ 300000) :
    Calls Tryz.prog 149 #[.agg #[.bool g, .slice p n c], .slice q m d] w (LPost w (rn N D) (rd N D) n (m + 1)) := by
  have hb2 := grown_trans (World.grownBy_alloc w (.cells #[.bool g, .slice p n c] 33) none) (World.grownBy_alloc _ (.cells #[.bool false, .slice none 0 0, .slice none 0 0] 35) none)
  have H1 := isOne_any (hB.keep hb2)
  have HN := hid (fun W (h : w.grownBy W none) => intNorm_any (hA.keep h) (by omega))
  unfold IPost at HN
  by_cases e : D = 1
  · rw [decide_eq_true e] at H1
    replace H1 := hid H1
    have hgc : Nat.gcd N.natAbs D = 1 := by rw [e]; exact Nat.gcd_one_right _
    have e1 := rn_one hgc
    have e2 : rd N D = 1 := (rd_one hgc).trans e
    have HO2 := hid (fun W => of_at 1 1 rfl (by unfold W64; omega) W)
    have l1 : (dg 65536 1).length = 1 := by rw [dg_step 1 (by omega)]; simp [dg_zero]
    have L1 := hid l1
    clear l1 hgc
    go_enter Tryz.func149, Tryz.ntmps149
    go_wp2_with fail
    refine H1.out.mono ?_
    rintro ee w1 ⟨rfl, hg1⟩
    have hc := gcell hg1
    have hf := gfree hg1
    have hz := hg1.size
    simp at hz
    go_wp2_with fail
    refine (HN.out _ (grown_trans hb2 hg1)).mono ?_
    rintro ee w2 ⟨g1, p1, n1, c1, rfl, h1, hn1, hg2⟩
    go_wp2_with fail
    refine (HO2.out _).mono ?_
    rintro ee w3 ⟨p2, c2, rfl, h2, hg3⟩
    have hg := grown_trans hg1 (grown_trans hg2 hg3)
    clear hc hf hz
    have hc := gcell hg
    have hf := gfree hg
    have hz := hg.size
    simp at hz
    replace h1 := h1.keep hg3
    go_wp2_with fail
    exact bodyPost_ret (v := .agg #[.bool g1, .slice p1 n1 c1, .slice p2 (dg 65536 1).length c2]) (by simp [results, Tryz.results149, go_sem, hc]) rfl
      (LPost.close ((hg.block _ (by simp) (by simp)).trans (second w _ _)) (by omega) (grown_trans hb2 hg) (by rw [e1]; exact h1) (by rw [e2]; exact h2) hn1 (by rw [L1.out]; omega))
  rw [decide_eq_false e] at H1
  replace H1 := hid H1
  have HG := hid (fun W (h : w.grownBy W none) => natGcd_n (T.keep h) (hA.1.keep h) (hB.keep h) (by omega) (by omega))
  have GP : 0 < Nat.gcd N.natAbs D := Nat.gcd_pos_of_pos_right _ hD
  by_cases e1 : Nat.gcd N.natAbs D = 1
  · have E1 := hid (rn_one e1)
    have E2 := hid (rd_one e1)
    have HM := hid (fun W (h : w.grownBy W none) => natNorm_n (hB.keep h) (by omega))
    rw [e1] at HG
    clear e1 GP
    go_enter Tryz.func149, Tryz.ntmps149
    go_wp2_with fail
    refine H1.out.mono ?_
    rintro ee w1 ⟨rfl, hg1⟩
    have hc := gcell hg1
    have hf := gfree hg1
    have hz := hg1.size
    simp at hz
    go_wp2_with fail
    refine (HG.out _ (grown_trans hb2 hg1)).mono ?_
    rintro ee w2 ⟨p1, n1, c1, rfl, h1, hn1, hg2⟩
    replace hg2 := grown_trans hg1 hg2
    clear hc hf hz
    have hc := gcell hg2
    have hf := gfree hg2
    have hz := hg2.size
    simp at hz
    go_wp2_with fail
    refine (isOne_any h1.isN).mono ?_
    rintro ee w3 ⟨rfl, hg3⟩
    rw [decide_eq_true rfl]
    replace hg3 := grown_trans hg2 hg3
    clear hc hf hz
    have hc := gcell hg3
    have hf := gfree hg3
    have hz := hg3.size
    simp at hz
    go_wp2_with fail
    refine (HN.out _ (grown_trans hb2 hg3)).mono ?_
    rintro ee w4 ⟨g2, p2, n2, c2, rfl, h2, hn2, hg4⟩
    replace hg4 := grown_trans hg3 hg4
    clear hc hf hz
    have hc := gcell hg4
    have hf := gfree hg4
    have hz := hg4.size
    simp at hz
    go_wp2_with fail
    refine (HM.out _ (grown_trans hb2 hg4)).mono ?_
    rintro ee w5 ⟨p3, n3, c3, rfl, h3, hn3, hg5⟩
    replace h2 := h2.keep hg5
    replace hg5 := grown_trans hg4 hg5
    clear hc hf hz
    have hc := gcell hg5
    have hf := gfree hg5
    have hz := hg5.size
    simp at hz
    go_wp2_with fail
    exact bodyPost_ret (v := .agg #[.bool g2, .slice p2 n2 c2, .slice p3 n3 c3]) (by simp [results, Tryz.results149, go_sem, hc]) rfl
      (LPost.close ((hg5.block _ (by simp) (by simp)).trans (second w _ _)) (by omega) (grown_trans hb2 hg5) (by rw [E1.out]; exact h2) (by rw [E2.out]; exact h3) hn2 (by omega))
  · have GN := hid e1
    have SF := hid (sg_flag hA (Nat.gcd N.natAbs D))
    obtain ⟨G, hG⟩ : ∃ G, G = Nat.gcd N.natAbs D := ⟨_, rfl⟩
    have HGE := hid hG
    rw [← hG] at HG GN GP SF
    clear hG e1
    have GPH := hid GP
    have HX := hid (decide_eq_false GN.out)
    have HGX := hid (fun (x y : Nat) (hx : x ≤ n) (hy : y ≤ m) => show max x y ≤ 300000 by omega)
    go_enter Tryz.func149, Tryz.ntmps149
    go_wp2_with fail
    refine H1.out.mono ?_
    rintro ee w1 ⟨rfl, hg1⟩
    have hc := gcell hg1
    have hf := gfree hg1
    have hz := hg1.size
    simp at hz
    go_wp2_with fail
    refine (HG.out _ (grown_trans hb2 hg1)).mono ?_
    rintro ee w2 ⟨p1, n1, c1, rfl, h1, hn1, hg2⟩
    replace hg2 := grown_trans hg1 hg2
    clear hc hf hz
    have hc := gcell hg2
    have hf := gfree hg2
    have hz := hg2.size
    simp at hz
    go_wp2_with fail
    refine (isOne_any h1.isN).mono ?_
    rintro ee w3 ⟨rfl, hg3⟩
    rw [HX.out]
    replace h1 := h1.keep hg3
    replace hg3 := grown_trans hg2 hg3
    clear hc hf hz
    have hc := gcell hg3
    have hf := gfree hg3
    have hz := hg3.size
    simp at hz
    go_wp2_with fail
    refine (natDivMod_n (hA.1.keep (grown_trans hb2 hg3)) h1.isN (by omega) (by omega) GPH.out).mono ?_
    rintro ee w4 ⟨p2, n2, c2, p3, n3, c3, rfl, h2, h3, hn2, hn3, hn3', hg4⟩
    clear h3 hn3 hn3'
    replace h1 := h1.keep hg4
    replace hg4 := grown_trans hg3 hg4
    clear hc hf hz
    have hc := gcell hg4
    have hf := gfree hg4
    have hz := hg4.size
    simp at hz
    have hlt : w.heap.size < w4.heap.size := by omega
    have hlt1 : w.heap.size + 1 < w4.heap.size := by omega
    have hbx := (hg4.block w.heap.size (by simp; omega) (by simp)).trans (first_of w _ _)
    have hb1 := (hg4.block (w.heap.size + 1) (by simp) (by simp)).trans (second w _ _)
    have hs := grown_setCell w4 ⟨w.heap.size, 1, none⟩ (.slice p2 n2 c2)
    have kx : w4.cell? ⟨w.heap.size, 1, none⟩ = some (.slice p n c) := by
      have := cell_of_row w4 w.heap.size 1 _ _ _ hbx
      simpa using this
    have kf := frozen_of_row w4 w.heap.size 1 _ _ hbx
    have k5 : (w4.setCell ⟨w.heap.size, 1, none⟩ (.slice p2 n2 c2)).cell? ⟨w.heap.size, 1, none⟩ = some (.slice p2 n2 c2) := by simp [go_sem, kx, kf]
    have hB4 := (hB.keep (grown_trans hb2 hg4)).other2 hbx hs
    have h1s := h1.other2 hbx hs
    have h2s := h2.other2 hbx hs
    have hb1s := (hs.block (w.heap.size + 1) (lt_of_block hb1) (by simp)).trans hb1
    have hgs : w.grownBy (w4.setCell ⟨w.heap.size, 1, none⟩ (.slice p2 n2 c2)) none := grown_new (grown_trans hb2 hg4) hs (fun g e => by cases e; exact Nat.le_refl _)
    go_wp2_with fail
    refine (natDivMod_n hB4 h1s.isN (by omega) (by omega) GPH.out).mono ?_
    rintro ee w5 ⟨p4, n4, c4, p5, n5, c5, rfl, h4, h5, hn4, hn5, hn5', hg5⟩
    clear h5 hn5 hn5'
    replace h2s := h2s.keep hg5
    have k6 := hg5.cell k5 (by simp)
    have hc5 := gcell hg5
    have hf5 := gfree hg5
    have hz5 := hg5.size
    simp at hz5
    go_wp2_with fail
    refine (intNorm_any (IsZ.mk g h2s.isN) (by omega)).mono ?_
    rintro ee w6 ⟨g6, p6, n6, c6, rfl, h6, hn6, hg6⟩
    replace h4 := h4.keep hg6
    replace hg6 := grown_trans hg5 hg6
    clear hc5 hf5 hz5
    clear k6
    have hbF := (hg6.block _ (lt_of_block hb1s) (by simp)).trans hb1s
    obtain ⟨l0, l1, l2, m0, m1, m2⟩ := ratbox_facts hbF
    go_wp2_with fail
    exact bodyPost_ret (v := .agg #[.bool g6, .slice p6 n6 c6, .slice p4 n4 c4]) (by simp [results, Tryz.results149, go_sem, l0, l1, l2, m0, m1, m2]) rfl
      (LPost.close hbF (by omega) (grown_trans hgs hg6) (by unfold rn; rw [← HGE.out, ← SF.out]; exact h6) (by unfold rd; rw [← HGE.out]; exact h4) (by omega) (by omega))
def qn (N M : Int) : Int := if M < 0 then -N else N
theorem qn_sg {w : World} {g h : Bool} {p q : Option Addr} {n c m d : Nat} {N M : Int} (hA : IsZ w g p n c N) (hB : IsZ w h q m d M) (h0 : M ≠ 0) : sg (g != h) N.natAbs = qn N M := by
  have e1 := hA.2
  have e2 := hB.2
  unfold qn
  cases h
  · rw [sg_false] at e2
    rw [if_neg (by omega)]
    simpa using e1.symm
  · rw [sg_true] at e2
    rw [if_pos (by omega)]
    have : (g != true) = !g := by cases g <;> rfl
    rw [this, sg_not, ← e1]
set_option maxHeartbeats 4000000 in
theorem quotient_any {w : World} (T : Tb w) {g h : Bool} {p q : Option Addr} {n c m d : Nat} {N M : Int} (hA : IsZ w g p n c N) (hB : IsZ w h q m d M) (h0 : M ≠ 0) (hn : n ≤ 300000) (hm : m ≤ 300000) :
    Calls Tryz.prog 224 #[.agg #[.bool g, .slice p n c], .agg #[.bool h, .slice q m d]] w (LPost w (rn (qn N M) M.natAbs) (rd (qn N M) M.natAbs) n (m + 1)) := by
  have HL := hid (fun W (hW : w.grownBy W none) => lowest_any (T.keep hW) (g := (g != h)) (N := sg (g != h) N.natAbs) (IsZ.mk _ (hA.1.keep hW)) (hB.1.keep hW) (by omega) hn hm)
  rw [qn_sg hA hB h0] at HL
  generalize rn (qn N M) M.natAbs = X at *
  generalize rd (qn N M) M.natAbs = Y at *
  unfold LPost at HL
  obtain ⟨f, hf⟩ : ∃ f, f = (g != h) := ⟨_, rfl⟩
  rw [← hf] at HL
  have hws := grown_trans (grown_trans (World.grownBy_alloc w (.cells #[.bool f, .slice p n c] 33) none) (World.grownBy_alloc _ (.cells #[.bool h, .slice q m d] 33) none)) (World.grownBy_alloc _ (.cells #[.bool false, .slice none 0 0, .slice none 0 0] 35) none)
  clear hA hB T h0
  cases g <;> cases h
  all_goals
    simp at hf
    subst hf
    go_enter Tryz.func224, Tryz.ntmps224
    go_wp2_with fail
    refine (HL.out _ hws).mono ?_
    rintro ee w1 ⟨g1, p1, n1, c1, q1, m1, d1, rfl, h1, h2, hn1, hm1, hg⟩
    have hc := gcell hg
    have hf := gfree hg
    have hz := hg.size
    simp at hz
    go_wp2_with fail
    exact bodyPost_ret (v := .agg #[.bool g1, .slice p1 n1 c1, .slice q1 m1 d1]) (by simp [results, Tryz.results224, go_sem, hc]) rfl
      (LPost.close ((hg.block _ (by simp) (by simp)).trans (third w _ _ _)) (by omega) (grown_trans hws hg) h1 h2 hn1 hm1)
theorem cmpI_zero_iff (M : Int) : cmpI M 0 = 0 ↔ M = 0 := by
  unfold cmpI
  split
  · omega
  · split <;> omega
def MkPost (w : World) (X : Int) (Y : Nat) (n m : Nat) (e : Ending) (w' : World) : Prop :=
  ∃ (g : Bool) (p : Option Addr) (n' c : Nat) (q : Option Addr) (m' d : Nat), e = .returned (.tuple #[.agg #[.bool g, .slice p n' c, .slice q m' d], .int .i64 0]) ∧ IsI w' g p n' c X ∧ IsC w' q m' d Y ∧ n' ≤ n ∧ m' ≤ m ∧ w.grownBy w' none
theorem MkPost.of {w w' : World} {X : Int} {Y n m : Nat} {g : Bool} {p q : Option Addr} {n' c m' d : Nat} (h : LPost w X Y n m (.returned (.agg #[.bool g, .slice p n' c, .slice q m' d])) w') :
    MkPost w X Y n m (.returned (.tuple #[.agg #[.bool g, .slice p n' c, .slice q m' d], .int .i64 0])) w' := by
  obtain ⟨g1, p1, n1, c1, q1, m1, d1, e, h⟩ := h
  simp at e
  obtain ⟨rfl, ⟨rfl, rfl, rfl⟩, rfl, rfl, rfl⟩ := e
  exact ⟨g, p, n', c, q, m', d, rfl, h⟩
set_option maxHeartbeats 4000000 in
theorem ratMake_any {w : World} (T : Tb w) {g h : Bool} {p q : Option Addr} {n c m d : Nat} {N M : Int} (hA : IsZ w g p n c N) (hB : IsZ w h q m d M) (h0 : M ≠ 0) (hn : n ≤ 300000) (hm : m ≤ 300000) :
    Calls Tryz.prog 184 #[.agg #[.bool g, .slice p n c], .agg #[.bool h, .slice q m d]] w (MkPost w (rn (qn N M) M.natAbs) (rd (qn N M) M.natAbs) n (m + 1)) := by
  have hb3 := grown_trans (grown_trans (World.grownBy_alloc w (.cells #[.bool g, .slice p n c] 33) none) (World.grownBy_alloc _ (.cells #[.bool h, .slice q m d] 33) none)) (World.grownBy_alloc _ (.cells #[.bool false, .slice none 0 0, .slice none 0 0] 35) none)
  have HS := hid (intSign_any (hB.keep hb3) (by omega))
  have HQ := hid (fun W (hW : w.grownBy W none) => quotient_any (T.keep hW) (hA.keep hW) (hB.keep hW) h0 hn hm)
  have t0 : ((cmpI M 0 == 0) = false) := beq_eq_false_iff_ne.2 (by rw [Ne, cmpI_zero_iff]; exact h0)
  generalize rn (qn N M) M.natAbs = X at *
  generalize rd (qn N M) M.natAbs = Y at *
  generalize cmpI M 0 = s at *
  unfold LPost at HQ
  clear h0
  go_enter Tryz.func184, Tryz.ntmps184
  go_wp2_with fail
  refine HS.out.mono ?_
  rintro ee w0 ⟨rfl, hg0⟩
  have hc := gcell hg0
  have hf := gfree hg0
  have hz := hg0.size
  simp at hz
  go_wp2_with fail
  refine (HQ.out _ (grown_trans hb3 hg0)).mono ?_
  rintro ee w1 ⟨g1, p1, n1, c1, q1, m1, d1, rfl, h1, h2, hn1, hm1, hg⟩
  replace hg := grown_trans hg0 hg
  clear hc hf hz
  have hc := gcell hg
  have hf := gfree hg
  have hz := hg.size
  simp at hz
  go_wp2_with fail
  exact bodyPost_ret (v := .tuple #[.agg #[.bool g1, .slice p1 n1 c1, .slice q1 m1 d1], .int .i64 0]) (by simp [results, Tryz.results184, go_sem, hc]) rfl
    (MkPost.of (LPost.close ((hg.block _ (by simp) (by simp)).trans (third w _ _ _)) (by omega) (grown_trans hb3 hg) h1 h2 hn1 hm1))
set_option maxHeartbeats 4000000 in
theorem ratMake_e {w : World} {g h : Bool} {p q : Option Addr} {n c m d : Nat} {N : Int} (hA : IsZ w g p n c N) (hB : IsZ w h q m d 0) (hn : n ≤ 300000) (hm : m ≤ 300000) :
    Calls Tryz.prog 184 #[.agg #[.bool g, .slice p n c], .agg #[.bool h, .slice q m d]] w fun e w' => e = .returned (.tuple #[.agg #[.bool false, .slice none 0 0, .slice none 0 0], .int .i64 3]) ∧ w.grownBy w' none := by
  have hb3 := grown_trans (grown_trans (World.grownBy_alloc w (.cells #[.bool g, .slice p n c] 33) none) (World.grownBy_alloc _ (.cells #[.bool h, .slice q m d] 33) none)) (World.grownBy_alloc _ (.cells #[.bool false, .slice none 0 0, .slice none 0 0] 35) none)
  have HS := intSign_any (hB.keep hb3) (by omega)
  rw [show cmpI 0 0 = 0 by decide] at HS
  replace HS := hid HS
  go_enter Tryz.func184, Tryz.ntmps184
  go_wp2_with fail
  refine HS.out.mono ?_
  rintro ee w0 ⟨rfl, hg0⟩
  have hc := gcell hg0
  have hf := gfree hg0
  have hz := hg0.size
  simp at hz
  have hs := set3_grown w0 (w.heap.size + 1 + 1) (.bool false) (.slice none 0 0) (.slice none 0 0)
  go_wp2_with fail
  exact bodyPost_ret (v := .tuple #[.agg #[.bool false, .slice none 0 0, .slice none 0 0], .int .i64 3]) (by simp [results, Tryz.results184, go_sem, hc]) rfl
    ⟨rfl, grown_new (grown_trans hb3 hg0) hs (fun g e => by cases e; omega)⟩
end Go.Proofs.YtjpkncgfpbhnaaaGreatDoor
namespace Nm
structure RInv (N half k A : Nat) : Prop where
  lo : (A - 1) * (A - 1) < N / 2 ^ (2 * half - 2 * k)
  hi : N / 2 ^ (2 * half - 2 * k) < (A + 1) * (A + 1)
  one : 1 ≤ A
theorem RInv.start {N half : Nat} (h1 : 2 ^ (2 * half) ≤ N) (h2 : N < 2 ^ (2 * half + 2)) : RInv N half 0 1 := by
  have hp : 0 < 2 ^ (2 * half) := Nat.pow_pos (by omega)
  have a : 1 ≤ N / 2 ^ (2 * half) := (Nat.le_div_iff_mul_le hp).2 (by omega)
  have b : N / 2 ^ (2 * half) < 4 := Nat.div_lt_of_lt_mul (by rw [Nat.pow_add] at h2; omega)
  refine ⟨?_, ?_, Nat.le_refl _⟩
  · simp; omega
  · simp; omega
theorem RInv.pow_le {N half k A : Nat} (h : RInv N half k A) (hN : 2 ^ (2 * half) ≤ N) (hk : k ≤ half) : 2 ^ k ≤ A := by
  refine Nat.le_of_not_lt fun hlt => ?_
  have h1 : (A + 1) * (A + 1) ≤ 2 ^ k * 2 ^ k := Nat.mul_le_mul hlt hlt
  have h2 : 2 ^ k * 2 ^ k ≤ N / 2 ^ (2 * half - 2 * k) := by
    refine (Nat.le_div_iff_mul_le (Nat.pow_pos (by omega))).2 ?_
    rw [← Nat.pow_add, ← Nat.pow_add, show k + k + (2 * half - 2 * k) = 2 * half by omega]; exact hN
  have := h.hi
  omega
theorem RInv.next {N half k j A B : Nat} (h : RInv N half k A) (hN : 2 ^ (2 * half) ≤ N) (hkj : k < j) (hj : j ≤ half) (hj2 : j ≤ 2 * k + 1) (hB : B = A * 2 ^ (j - k - 1) + N / 2 ^ (2 * half - k - j + 1) / A) : RInv N half j B := by
  have hp := h.pow_le hN (by omega)
  have e1 : N / 2 ^ (2 * half - 2 * k) = N / 2 ^ (2 * half - 2 * j) / (2 ^ (j - k) * 2 ^ (j - k)) := by
    rw [Nat.div_div_eq_div_mul, ← Nat.pow_add, ← Nat.pow_add]; congr 2; omega
  have e2 : N / 2 ^ (2 * half - k - j + 1) = N / 2 ^ (2 * half - 2 * j) / (2 * 2 ^ (j - k)) := by
    rw [Nat.div_div_eq_div_mul, ← Nat.pow_succ', ← Nat.pow_add]; congr 2; omega
  have h1 := h.lo
  have h2 := h.hi
  rw [e2] at hB
  have hap : 2 ^ (j - k) ≤ 2 * A := by
    have : 2 ^ (j - k) ≤ 2 ^ (k + 1) := Nat.pow_le_pow_right (by omega) (by omega)
    rw [Nat.pow_succ] at this; omega
  obtain ⟨r1, r2, r3⟩ := newton A (j - k) (N / 2 ^ (2 * half - 2 * j)) (N / 2 ^ (2 * half - 2 * k)) (2 ^ (j - k)) rfl (by omega) h1 h2 h.one e1 hap B hB
  exact ⟨r1, r2, r3⟩
theorem RInv.done {N half A : Nat} (h : RInv N half half A) : (A - 1) * (A - 1) < N ∧ N < (A + 1) * (A + 1) := by
  have h1 := h.lo
  have h2 := h.hi
  rw [Nat.sub_self, Nat.pow_zero, Nat.div_one] at h1 h2
  exact ⟨h1, h2⟩
theorem RInv.le {N half k A : Nat} (h : RInv N half k A) (hN : 1 ≤ N) : A ≤ N := by
  have h1 := h.lo
  have h2 : N / 2 ^ (2 * half - 2 * k) ≤ N := Nat.div_le_self _ _
  rcases Nat.lt_or_ge A 2 with h3 | h3
  · omega
  · have := Nat.mul_le_mul_left (A - 1) (show 1 ≤ A - 1 by omega)
    omega
end Nm
namespace Go.Proofs.YtjpkncgfpbhnaaaGreatDoor
open Go.RowKit Nm
theorem wholeR_any {w : World} (p : Option Addr) (n c : Nat) :
    Calls Tryz.prog 133 #[.slice p n c] w fun e w' => e = .returned (.agg #[.bool false, .slice p n c]) ∧ w.grownBy w' none := by
  go_enter Tryz.func133, Tryz.ntmps133
  go_wp2
  exact bodyPost_ret (v := .agg #[.bool false, .slice p n c]) (by simp [results, Tryz.results133, go_sem]) rfl ⟨rfl, World.grownBy_alloc w _ none⟩
def SqSpec (X : Int) (Y : Nat) (Z : Int) (V : Nat) (ok : Bool) : Prop :=
  (ok = true ∧ 0 ≤ Z ∧ Z * Z = X ∧ V * V = Y) ∨ (ok = false ∧ Z = 0 ∧ V = 0 ∧ ¬ ∃ R S : Nat, (R : Int) * R = X ∧ S * S = Y)
theorem sq_lt {a b : Nat} (h : a < b) : a * a < b * b := Nat.mul_lt_mul'' h h
theorem sq_inj {a b : Nat} (h : a * a = b * b) : a = b := by
  rcases Nat.lt_trichotomy a b with h1 | h1 | h1
  · have := sq_lt h1; omega
  · exact h1
  · have := sq_lt h1; omega
theorem SqSpec.unique {X : Int} {Y : Nat} {Z Z' : Int} {V V' : Nat} {ok ok' : Bool} (h : SqSpec X Y Z V ok) (k : SqSpec X Y Z' V' ok') : Z = Z' ∧ V = V' ∧ ok = ok' := by
  rcases h with ⟨rfl, h1, h2, h3⟩ | ⟨rfl, rfl, rfl, h1⟩
  · rcases k with ⟨rfl, k1, k2, k3⟩ | ⟨rfl, rfl, rfl, k1⟩
    · refine ⟨?_, sq_inj (h3.trans k3.symm), rfl⟩
      obtain ⟨a, rfl⟩ := Int.eq_ofNat_of_zero_le h1
      obtain ⟨b, rfl⟩ := Int.eq_ofNat_of_zero_le k1
      have : a * a = b * b := by
        have := h2.trans k2.symm
        exact_mod_cast this
      rw [sq_inj this]
    · obtain ⟨a, rfl⟩ := Int.eq_ofNat_of_zero_le h1
      exact absurd ⟨a, V, h2, h3⟩ k1
  · rcases k with ⟨rfl, k1, k2, k3⟩ | ⟨rfl, rfl, rfl, k1⟩
    · obtain ⟨a, rfl⟩ := Int.eq_ofNat_of_zero_le k1
      exact absurd ⟨a, V', k2, k3⟩ h1
    · exact ⟨rfl, rfl, rfl⟩
theorem SqSpec.yes {X : Int} {Y R S : Nat} (h0 : 0 ≤ X) (h1 : R * R ≤ X.natAbs) (h2 : X.natAbs - R * R = 0) (h3 : S * S ≤ Y) (h4 : Y - S * S = 0) : SqSpec X Y (R : Int) S true := by
  refine .inl ⟨rfl, by omega, ?_, by omega⟩
  have : ((R * R : Nat) : Int) = X := by omega
  exact_mod_cast this
def SqPost (w : World) (X : Int) (Y : Nat) (e : Ending) (w' : World) : Prop :=
  ∃ (g : Bool) (p : Option Addr) (n c : Nat) (q : Option Addr) (m d : Nat) (Z : Int) (V : Nat) (ok : Bool), e = .returned (.tuple #[.agg #[.bool g, .slice p n c, .slice q m d], .bool ok]) ∧ IsI w' g p n c Z ∧ IsC w' q m d V ∧ SqSpec X Y Z V ok ∧ w.grownBy w' none
theorem SqPost.close {w w5 : World} {G : Nat} {x : Bool} {y z : Option Addr} {a b e f : Nat} {T : TypeId} {g : Bool} {p q : Option Addr} {n c m d : Nat} {X : Int} {Y : Nat} {Z : Int} {V : Nat} {ok : Bool}
    (hW : w5.heap[G]? = some (.cells #[.bool x, .slice y a b, .slice z e f] T (0, 0))) (hG : w.heap.size ≤ G) (hg : w.grownBy w5 none) (h1 : IsI w5 g p n c Z) (h2 : IsC w5 q m d V) (hs : SqSpec X Y Z V ok) :
    SqPost w X Y (.returned (.tuple #[.agg #[.bool g, .slice p n c, .slice q m d], .bool ok])) (((w5.setCell ⟨G, 0, none⟩ (.bool g)).setCell ⟨G, 1, none⟩ (.slice p n c)).setCell ⟨G, 2, none⟩ (.slice q m d)) := by
  have hS := set3_grown w5 G (.bool g) (.slice p n c) (.slice q m d)
  exact ⟨g, p, n, c, q, m, d, Z, V, ok, rfl, ⟨IsC.other3 h1.1 hW hS, h1.2⟩, h2.other3 hW hS, hs, grown_new hg hS (fun g e => by cases e; exact hG)⟩
theorem rn_q {N : Int} {D : Nat} (h : 0 < D) : rn N D = (mkRat N D).num := by
  rw [Rat.num_mkRat, if_neg (by omega), Nat.gcd_comm]
  unfold rn
  by_cases h0 : N < 0
  · rw [decide_eq_true h0]
    show -((N.natAbs / Nat.gcd N.natAbs D : Nat) : Int) = _
    have e : N = -(N.natAbs : Int) := by omega
    have hd : ((Nat.gcd N.natAbs D : Nat) : Int) ∣ (N.natAbs : Int) := Int.natCast_dvd_natCast.2 (Nat.gcd_dvd_left _ _)
    rw [Int.natCast_ediv, ← Int.neg_ediv_of_dvd hd, ← e]
  · rw [decide_eq_false h0]
    show ((N.natAbs / Nat.gcd N.natAbs D : Nat) : Int) = _
    have e : N = (N.natAbs : Int) := by omega
    rw [Int.natCast_ediv, ← e]
theorem rd_q {N : Int} {D : Nat} (h : 0 < D) : rd N D = (mkRat N D).den := by
  rw [Rat.den_mkRat, if_neg (by omega), Nat.gcd_comm]
  rfl
theorem pq (N : Int) (D : Nat) : mkRat (pn N D) (pd D) = mkRat N D := by
  unfold pn pd
  split
  · next h => subst h; simp
  · rfl
theorem qn_q {N M : Int} (h0 : M ≠ 0) : mkRat (qn N M) M.natAbs = (N : Rat) / (M : Rat) := by
  rw [Rat.mkRat_eq_div]
  unfold qn
  by_cases h : M < 0
  · rw [if_pos h]
    have e : M = -(M.natAbs : Int) := by omega
    generalize hk : M.natAbs = k at *
    subst e
    have : ((-(k : Int) : Int) : Rat) = -(k : Rat) := by rw [Rat.intCast_neg, Rat.intCast_natCast]
    rw [this, Rat.intCast_neg]
    grind
  · rw [if_neg h]
    have e : M = (M.natAbs : Int) := by omega
    generalize hk : M.natAbs = k at *
    subst e
    rw [Rat.intCast_natCast]
theorem mk_div {A B : Int} {D E : Nat} (hD : 0 < D) (hE : 0 < E) (hB : B ≠ 0) : ((A * E : Int) : Rat) / ((B * D : Int) : Rat) = mkRat A D / mkRat B E := by
  have hD' : (D : Rat) ≠ 0 := fun h => by have := Rat.natCast_pos.2 hD; grind
  have hE' : (E : Rat) ≠ 0 := fun h => by have := Rat.natCast_pos.2 hE; grind
  have hB' : (B : Rat) ≠ 0 := fun h => hB (by exact_mod_cast h)
  rw [Rat.mkRat_eq_div, Rat.mkRat_eq_div]
  simp only [Rat.intCast_mul, Rat.intCast_natCast]
  grind
def IsQ (w : World) (g : Bool) (p : Option Addr) (n c : Nat) (q : Option Addr) (m d : Nat) (v : Rat) : Prop := ∃ (N : Int) (D : Nat), IsZ w g p n c N ∧ IsN w q m d D ∧ v = mkRat N D
theorem IsQ.keep {w w' : World} {g : Bool} {p q : Option Addr} {n c m d : Nat} {v : Rat} (h : IsQ w g p n c q m d v) (hg : w.grownBy w' none) : IsQ w' g p n c q m d v :=
  let ⟨N, D, h1, h2, h3⟩ := h; ⟨N, D, h1.keep hg, h2.keep hg, h3⟩
def IsV (w : World) (g : Bool) (p : Option Addr) (n c : Nat) (q : Option Addr) (m d : Nat) (v : Rat) : Prop := IsI w g p n c v.num ∧ IsC w q m d v.den
theorem IsV.keep {w w' : World} {g : Bool} {p q : Option Addr} {n c m d : Nat} {v : Rat} (h : IsV w g p n c q m d v) (hg : w.grownBy w' none) : IsV w' g p n c q m d v := ⟨h.1.keep hg, h.2.keep hg⟩
theorem IsV.q {w : World} {g : Bool} {p q : Option Addr} {n c m d : Nat} {v : Rat} (h : IsV w g p n c q m d v) : IsQ w g p n c q m d v := ⟨_, _, h.1.z, h.2.isN, (Rat.mkRat_self v).symm⟩
theorem IsV.congr {w : World} {g : Bool} {p q : Option Addr} {n c m d : Nat} {v u : Rat} (h : IsV w g p n c q m d v) (e : v = u) : IsV w g p n c q m d u := e ▸ h
def VPost (w : World) (v : Rat) (B : Nat) (e : Ending) (w' : World) : Prop :=
  ∃ (g : Bool) (p : Option Addr) (n c : Nat) (q : Option Addr) (m d : Nat), e = .returned (.agg #[.bool g, .slice p n c, .slice q m d]) ∧ IsV w' g p n c q m d v ∧ n ≤ B ∧ m ≤ B ∧ w.grownBy w' none
theorem LPost.v {w w' : World} {X : Int} {Y n m B : Nat} {e : Ending} {v : Rat} (h : LPost w X Y n m e w') (e1 : X = v.num) (e2 : Y = v.den) (hn : n ≤ B) (hm : m ≤ B) : VPost w v B e w' := by
  obtain ⟨g, p, n', c, q, m', d, he, h1, h2, h3, h4, h5⟩ := h
  subst e1 e2
  exact ⟨g, p, n', c, q, m', d, he, ⟨h1, h2⟩, by omega, by omega, h5⟩
theorem lowest_v {w : World} (T : Tb w) {g : Bool} {p q : Option Addr} {n c m d D B : Nat} {N : Int} (hA : IsZ w g p n c N) (hB : IsN w q m d D) (hD : 0 < D) (hn : n ≤ B) (hm : m + 1 ≤ B) (hx : B ≤ 300000) :
    Calls Tryz.prog 149 #[.agg #[.bool g, .slice p n c], .slice q m d] w (VPost w (mkRat N D) B) :=
  (lowest_any T hA hB hD (by omega) (by omega)).mono fun _ _ h => h.v (rn_q hD) (rd_q hD) hn hm
theorem intbox_facts {w : World} {G : Nat} {x : Bool} {y : Option Addr} {a b : Nat} {T : TypeId} (hb : w.heap[G]? = some (.cells #[.bool x, .slice y a b] T (0, 0))) :
    w.cell? ⟨G, 0, none⟩ = some (.bool x) ∧ w.cell? ⟨G, 1, none⟩ = some (.slice y a b) ∧ w.frozen? ⟨G, 0, none⟩ = false ∧ w.frozen? ⟨G, 1, none⟩ = false := by
  have k0 := cell_of_row w G 0 _ _ _ hb
  have k1 := cell_of_row w G 1 _ _ _ hb
  simp at k0 k1
  exact ⟨k0, k1, frozen_of_row w G 0 _ _ hb, frozen_of_row w G 1 _ _ hb⟩
theorem VPost.close {w w5 : World} {G : Nat} {x : Bool} {y z : Option Addr} {a b e f : Nat} {T : TypeId} {g : Bool} {p q : Option Addr} {n c m d B : Nat} {v : Rat}
    (hW : w5.heap[G]? = some (.cells #[.bool x, .slice y a b, .slice z e f] T (0, 0))) (hG : w.heap.size ≤ G) (hg : w.grownBy w5 none) (h1 : IsV w5 g p n c q m d v) (hn : n ≤ B) (hm : m ≤ B) :
    VPost w v B (.returned (.agg #[.bool g, .slice p n c, .slice q m d])) (((w5.setCell ⟨G, 0, none⟩ (.bool g)).setCell ⟨G, 1, none⟩ (.slice p n c)).setCell ⟨G, 2, none⟩ (.slice q m d)) := by
  have hs := set3_grown w5 G (.bool g) (.slice p n c) (.slice q m d)
  exact ⟨g, p, n, c, q, m, d, rfl, ⟨⟨IsC.other3 h1.1.1 hW hs, h1.1.2⟩, h1.2.other3 hW hs⟩, hn, hm, grown_new hg hs (fun g e => by cases e; exact hG)⟩
theorem IsQ.opp {w : World} {g : Bool} {p q : Option Addr} {n c m d : Nat} {v : Rat} (h : IsQ w g p n c q m d v) : IsQ w (!g) p n c q m d (-v) := by
  obtain ⟨N, D, h1, h2, rfl⟩ := h
  refine ⟨-N, D, ⟨?_, ?_⟩, h2, Rat.neg_mkRat N D⟩
  · rw [Int.natAbs_neg]; exact h1.1
  · have := h1.2
    rw [Int.natAbs_neg, sg_not]
    omega
set_option maxHeartbeats 1000000 in
theorem opposite_any {w : World} (g : Bool) (p q : Option Addr) (n c m d : Nat) :
    Calls Tryz.prog 203 #[.agg #[.bool g, .slice p n c, .slice q m d]] w fun e w' => e = .returned (.agg #[.bool (!g), .slice p n c, .slice q m d]) ∧ w.grownBy w' none := by
  have hb2 := grown_trans (World.grownBy_alloc w (.cells #[.bool g, .slice p n c, .slice q m d] 35) none) (World.grownBy_alloc _ (.cells #[.bool false, .slice none 0 0, .slice none 0 0] 35) none)
  go_enter Tryz.func203, Tryz.ntmps203
  go_wp2
  exact bodyPost_ret (v := .agg #[.bool (!g), .slice p n c, .slice q m d]) (by simp [results, Tryz.results203, go_sem]) rfl ⟨rfl, grown_trans (World.grownBy_alloc w _ none) (World.grownBy_alloc _ _ none)⟩
theorem wholeS_any {w : World} (p : Option Addr) (n c : Nat) :
    Calls Tryz.prog 133 #[.slice p n c] w fun e w' => e = .returned (.agg #[.bool false, .slice p n c]) ∧ w.grownBy w' none := by
  go_enter Tryz.func133, Tryz.ntmps133
  go_wp2
  exact bodyPost_ret (v := .agg #[.bool false, .slice p n c]) (by simp [results, Tryz.results133, go_sem]) rfl ⟨rfl, World.grownBy_alloc w _ none⟩
theorem set2_block {w : World} {G : Nat} {x : Bool} {y : Option Addr} {a b : Nat} {T : TypeId} (hb : w.heap[G]? = some (.cells #[.bool x, .slice y a b] T (0, 0))) (g : Bool) (p : Option Addr) (n c : Nat) :
    ((w.setCell ⟨G, 0, none⟩ (.bool g)).setCell ⟨G, 1, none⟩ (.slice p n c)).heap[G]? = some (.cells #[.bool g, .slice p n c] T (0, 0)) := by
  have h1 := heap_setCell_same w G 0 _ _ (.bool g) hb
  have h2 := heap_setCell_same _ G 1 _ _ (.slice p n c) h1
  rw [h2]
  simp
theorem set2_grown (w : World) (G : Nat) (a b : Value) : w.grownBy ((w.setCell ⟨G, 0, none⟩ a).setCell ⟨G, 1, none⟩ b) (some G) :=
  grown_trans (grown_setCell w ⟨G, 0, none⟩ a) (grown_setCell _ ⟨G, 1, none⟩ b)
theorem IsZ.of_n {w : World} {q : Option Addr} {m d D : Nat} (h : IsN w q m d D) : IsZ w false q m d (D : Int) := IsZ.mk false h
def MPost (w : World) (v : Rat) (B : Nat) (e : Ending) (w' : World) : Prop :=
  ∃ (g : Bool) (p : Option Addr) (n c : Nat) (q : Option Addr) (m d : Nat), e = .returned (.tuple #[.agg #[.bool g, .slice p n c, .slice q m d], .int .i64 0]) ∧ IsV w' g p n c q m d v ∧ n ≤ B ∧ m ≤ B ∧ w.grownBy w' none
def EPost (w : World) (x : Int) (e : Ending) (w' : World) : Prop := e = .returned (.tuple #[.agg #[.bool false, .slice none 0 0, .slice none 0 0], .int .i64 x]) ∧ w.grownBy w' none
theorem MPost.close {w w5 : World} {G : Nat} {x : Bool} {y z : Option Addr} {a b e f : Nat} {T : TypeId} {g : Bool} {p q : Option Addr} {n c m d B : Nat} {v : Rat}
    (hW : w5.heap[G]? = some (.cells #[.bool x, .slice y a b, .slice z e f] T (0, 0))) (hG : w.heap.size ≤ G) (hg : w.grownBy w5 none) (h1 : IsV w5 g p n c q m d v) (hn : n ≤ B) (hm : m ≤ B) :
    MPost w v B (.returned (.tuple #[.agg #[.bool g, .slice p n c, .slice q m d], .int .i64 0])) (((w5.setCell ⟨G, 0, none⟩ (.bool g)).setCell ⟨G, 1, none⟩ (.slice p n c)).setCell ⟨G, 2, none⟩ (.slice q m d)) := by
  have hs := set3_grown w5 G (.bool g) (.slice p n c) (.slice q m d)
  exact ⟨g, p, n, c, q, m, d, rfl, ⟨⟨IsC.other3 h1.1.1 hW hs, h1.1.2⟩, h1.2.other3 hW hs⟩, hn, hm, grown_new hg hs (fun g e => by cases e; exact hG)⟩
theorem EPost.close {w w5 : World} {G : Nat} (hG : w.heap.size ≤ G) (hg : w.grownBy w5 none) (x : Int) (a b c : Value) :
    EPost w x (.returned (.tuple #[.agg #[.bool false, .slice none 0 0, .slice none 0 0], .int .i64 x])) (((w5.setCell ⟨G, 0, none⟩ a).setCell ⟨G, 1, none⟩ b).setCell ⟨G, 2, none⟩ c) :=
  ⟨rfl, grown_new hg (set3_grown w5 G a b c) (fun g e => by cases e; exact hG)⟩
theorem make_v (B : Nat) {w : World} (T : Tb w) {g h : Bool} {p q : Option Addr} {n c m d : Nat} {N M : Int} {v : Rat} (hA : IsZ w g p n c N) (hB : IsZ w h q m d M) (h0 : M ≠ 0) (hv : (N : Rat) / (M : Rat) = v) (hn : n ≤ B) (hm : m + 1 ≤ B) (hx : B ≤ 300000) :
    Calls Tryz.prog 184 #[.agg #[.bool g, .slice p n c], .agg #[.bool h, .slice q m d]] w (MPost w v B) := by
  refine (ratMake_any T hA hB h0 (by omega) (by omega)).mono ?_
  rintro e w' ⟨g1, p1, n1, c1, q1, m1, d1, rfl, h1, h2, hn1, hm1, hg⟩
  have hp : 0 < M.natAbs := by omega
  rw [rn_q hp, qn_q h0, hv] at h1
  rw [rd_q hp, qn_q h0, hv] at h2
  exact ⟨g1, p1, n1, c1, q1, m1, d1, rfl, ⟨h1, h2⟩, by omega, by omega, hg⟩
set_option maxRecDepth 20000 in
set_option maxHeartbeats 4000000 in
theorem ratDiv_v (S : Nat) {w : World} (T : Tb w) {g1 g2 : Bool} {p1 q1 p2 q2 : Option Addr} {n1 c1 m1 d1 n2 c2 m2 d2 : Nat} {v u : Rat} (hA : IsQ w g1 p1 n1 c1 q1 m1 d1 v) (hB : IsQ w g2 p2 n2 c2 q2 m2 d2 u) (h0 : u ≠ 0) (hn1 : n1 ≤ S) (hm1 : m1 ≤ S) (hn2 : n2 ≤ S) (hm2 : m2 ≤ S) (hS : S ≤ 40000) :
    Calls Tryz.prog 202 #[.agg #[.bool g1, .slice p1 n1 c1, .slice q1 m1 d1], .agg #[.bool g2, .slice p2 n2 c2, .slice q2 m2 d2]] w (MPost w (v / u) (4 * S + 20)) := by
  obtain ⟨N, D, hA, hE, rfl⟩ := hA
  obtain ⟨M, E, hB, hF, rfl⟩ := hB
  have HT := hid T
  have hM : pn M E ≠ 0 := fun h => h0 (by rw [← pq, h]; simp)
  have HNE := hid (show pn M E * (pd D : Int) ≠ 0 from Int.mul_ne_zero hM (by have := pd_pos D; omega))
  have HV := hid (show ((pn N D * (pd E : Int) : Int) : Rat) / ((pn M E * (pd D : Int) : Int) : Rat) = mkRat N D / mkRat M E by rw [mk_div (pd_pos D) (pd_pos E) hM, pq, pq])
  clear T hM h0
  have hW := (grown_trans (grown_trans (World.grownBy_alloc w (.cells #[.bool g1, .slice p1 n1 c1, .slice q1 m1 d1] 35) none) (World.grownBy_alloc _ (.cells #[.bool g2, .slice p2 n2 c2, .slice q2 m2 d2] 35) none)) (World.grownBy_alloc _ (.cells #[.bool false, .slice none 0 0, .slice none 0 0] 35) none))
  have bx0 : (((w.alloc (.cells #[.bool g1, .slice p1 n1 c1, .slice q1 m1 d1] 35)).alloc (.cells #[.bool g2, .slice p2 n2 c2, .slice q2 m2 d2] 35)).alloc (.cells #[.bool false, .slice none 0 0, .slice none 0 0] 35)).heap[w.heap.size]? = some (.cells #[.bool g1, .slice p1 n1 c1, .slice q1 m1 d1] 35 (0, 0)) := by
    have h0 := heap_alloc_new w (.cells #[.bool g1, .slice p1 n1 c1, .slice q1 m1 d1] 35)
    have h1 := (grown_trans (World.grownBy_alloc (w.alloc (.cells #[.bool g1, .slice p1 n1 c1, .slice q1 m1 d1] 35)) (.cells #[.bool g2, .slice p2 n2 c2, .slice q2 m2 d2] 35) none) (World.grownBy_alloc _ (.cells #[.bool false, .slice none 0 0, .slice none 0 0] 35) none)).block _ (lt_of_block h0) (by simp)
    have h2 := h1.trans h0
    simpa using h2
  obtain ⟨x0, x1, x2, _, _, _⟩ := ratbox_facts bx0
  clear bx0
  have bx1 : (((w.alloc (.cells #[.bool g1, .slice p1 n1 c1, .slice q1 m1 d1] 35)).alloc (.cells #[.bool g2, .slice p2 n2 c2, .slice q2 m2 d2] 35)).alloc (.cells #[.bool false, .slice none 0 0, .slice none 0 0] 35)).heap[w.heap.size + 1]? = some (.cells #[.bool g2, .slice p2 n2 c2, .slice q2 m2 d2] 35 (0, 0)) := by
    have h0 := heap_alloc_new (w.alloc (.cells #[.bool g1, .slice p1 n1 c1, .slice q1 m1 d1] 35)) (.cells #[.bool g2, .slice p2 n2 c2, .slice q2 m2 d2] 35)
    have h1 := (World.grownBy_alloc ((w.alloc (.cells #[.bool g1, .slice p1 n1 c1, .slice q1 m1 d1] 35)).alloc (.cells #[.bool g2, .slice p2 n2 c2, .slice q2 m2 d2] 35)) (.cells #[.bool false, .slice none 0 0, .slice none 0 0] 35) none).block _ (lt_of_block h0) (by simp)
    have h2 := h1.trans h0
    simpa using h2
  obtain ⟨y0, y1, y2, _, _, _⟩ := ratbox_facts bx1
  clear bx1
  have bx2 : (((w.alloc (.cells #[.bool g1, .slice p1 n1 c1, .slice q1 m1 d1] 35)).alloc (.cells #[.bool g2, .slice p2 n2 c2, .slice q2 m2 d2] 35)).alloc (.cells #[.bool false, .slice none 0 0, .slice none 0 0] 35)).heap[w.heap.size + 1 + 1]? = some (.cells #[.bool false, .slice none 0 0, .slice none 0 0] 35 (0, 0)) := by
    have := heap_alloc_new ((w.alloc (.cells #[.bool g1, .slice p1 n1 c1, .slice q1 m1 d1] 35)).alloc (.cells #[.bool g2, .slice p2 n2 c2, .slice q2 m2 d2] 35)) (.cells #[.bool false, .slice none 0 0, .slice none 0 0] 35)
    simpa using this
  replace hA := hA.keep hW; replace hE := hE.keep hW; replace hB := hB.keep hW; replace hF := hF.keep hW
  go_enter Tryz.func202, Tryz.ntmps202
  go_wp2_with fail
  generalize (((w.alloc (.cells #[.bool g1, .slice p1 n1 c1, .slice q1 m1 d1] 35)).alloc (.cells #[.bool g2, .slice p2 n2 c2, .slice q2 m2 d2] 35)).alloc (.cells #[.bool false, .slice none 0 0, .slice none 0 0] 35)) = w0 at *
  refine (parts_any hA hE (by omega) (by omega)).mono ?_
  rintro ee v1 ⟨g3, p3, n3, c3, q3, m3, d3, rfl, hN, hD, hn3, hm3, hg⟩
  replace hA := hA.keep hg; replace hE := hE.keep hg; replace hB := hB.keep hg; replace hF := hF.keep hg
  replace x0 := hg.cell x0 (by simp); replace x1 := hg.cell x1 (by simp); replace x2 := hg.cell x2 (by simp); replace y0 := hg.cell y0 (by simp)
  replace y1 := hg.cell y1 (by simp); replace y2 := hg.cell y2 (by simp); replace bx2 := (hg.block _ (lt_of_block bx2) (by simp)).trans bx2; replace hW := grown_trans hW hg
  clear hg
  have hK1 := lt_of_block bx2
  have hg := World.grownBy_alloc v1 (.cells #[.bool g3, .slice p3 n3 c3] 33) none
  have hb := heap_alloc_new v1 (.cells #[.bool g3, .slice p3 n3 c3] 33)
  replace hA := hA.keep hg; replace hE := hE.keep hg; replace hB := hB.keep hg; replace hF := hF.keep hg
  replace hN := hN.keep hg; replace hD := hD.keep hg; replace x0 := hg.cell x0 (by simp); replace x1 := hg.cell x1 (by simp)
  replace x2 := hg.cell x2 (by simp); replace y0 := hg.cell y0 (by simp); replace y1 := hg.cell y1 (by simp); replace y2 := hg.cell y2 (by simp)
  replace bx2 := (hg.block _ (lt_of_block bx2) (by simp)).trans bx2; replace hW := grown_trans hW hg
  obtain ⟨z0, z1, _, _⟩ := intbox_facts hb
  clear hg hb
  go_wp2_with fail
  generalize v1.alloc (.cells #[.bool g3, .slice p3 n3 c3] 33) = u1 at *
  generalize v1.heap.size = K1 at *
  refine (parts_any hB hF (by omega) (by omega)).mono ?_
  rintro ee v2 ⟨g4, p4, n4, c4, q4, m4, d4, rfl, kN, kD, hn4, hm4, hg⟩
  replace hA := hA.keep hg; replace hE := hE.keep hg; replace hB := hB.keep hg; replace hF := hF.keep hg
  replace hN := hN.keep hg; replace hD := hD.keep hg; replace x0 := hg.cell x0 (by simp); replace x1 := hg.cell x1 (by simp)
  replace x2 := hg.cell x2 (by simp); replace y0 := hg.cell y0 (by simp); replace y1 := hg.cell y1 (by simp); replace y2 := hg.cell y2 (by simp)
  replace z0 := hg.cell z0 (by simp); replace z1 := hg.cell z1 (by simp); replace bx2 := (hg.block _ (lt_of_block bx2) (by simp)).trans bx2; replace hW := grown_trans hW hg
  clear hg
  have hK2 := lt_of_block bx2
  have hg := World.grownBy_alloc v2 (.cells #[.bool g4, .slice p4 n4 c4] 33) none
  have hb := heap_alloc_new v2 (.cells #[.bool g4, .slice p4 n4 c4] 33)
  replace hA := hA.keep hg; replace hE := hE.keep hg; replace hB := hB.keep hg; replace hF := hF.keep hg
  replace hN := hN.keep hg; replace hD := hD.keep hg; replace kN := kN.keep hg; replace kD := kD.keep hg
  replace x0 := hg.cell x0 (by simp); replace x1 := hg.cell x1 (by simp); replace x2 := hg.cell x2 (by simp); replace y0 := hg.cell y0 (by simp)
  replace y1 := hg.cell y1 (by simp); replace y2 := hg.cell y2 (by simp); replace z0 := hg.cell z0 (by simp); replace z1 := hg.cell z1 (by simp)
  replace bx2 := (hg.block _ (lt_of_block bx2) (by simp)).trans bx2; replace hW := grown_trans hW hg
  obtain ⟨t0, t1, _, _⟩ := intbox_facts hb
  clear hg hb
  clear x0 x1 x2 y0 y1 y2
  clear hA hE hB hF
  go_wp2_with fail
  generalize v2.alloc (.cells #[.bool g4, .slice p4 n4 c4] 33) = u2 at *
  generalize v2.heap.size = K2 at *
  have hg := grown_drew u2 none
  replace hN := hN.keep hg; replace hD := hD.keep hg; replace kN := kN.keep hg; replace kD := kD.keep hg
  replace z0 := hg.cell z0 (by simp); replace z1 := hg.cell z1 (by simp); replace t0 := hg.cell t0 (by simp); replace t1 := hg.cell t1 (by simp)
  replace bx2 := (hg.block _ (lt_of_block bx2) (by simp)).trans bx2; replace hW := grown_trans hW hg
  clear hg
  go_region_held3 (fun w' => w'.cell? ⟨K1, 0, none⟩ = some (.bool g3) ∧ w'.cell? ⟨K1, 1, none⟩ = some (.slice p3 n3 c3) ∧ w'.cell? ⟨K2, 0, none⟩ = some (.bool g4) ∧ w'.cell? ⟨K2, 1, none⟩ = some (.slice p4 n4 c4)) ((try go_split_ands) <;> (repeat' apply And.intro) <;> (repeat (first | (with_reducible assumption) | (with_reducible refine (grown_setCell _ _ _).cell ?_ (by simp; omega)) | (with_reducible refine (World.grownBy_alloc _ _ none).cell ?_ (by simp)) | (with_reducible refine (grown_drew _ none).cell ?_ (by simp)))))
    (first
      | (go_at_call 133; (with_reducible refine (wholeS_any _ _ _).mono ?_); rintro ee v5 ⟨rfl, hg⟩; replace hX := hX.keep hg; replace hN := hN.keep hg; replace hD := hD.keep hg; replace kN := kN.keep hg; replace kD := kD.keep hg; replace z0 := hg.cell z0 (by simp); replace z1 := hg.cell z1 (by simp); replace t0 := hg.cell t0 (by simp); replace t1 := hg.cell t1 (by simp); replace bx2 := (hg.block _ (lt_of_block bx2) (by simp)).trans bx2; replace hW := grown_trans hW hg; clear hg)
      | (go_at_call 133; (with_reducible refine (wholeS_any _ _ _).mono ?_); rintro ee v5 ⟨rfl, hg⟩; replace hN := hN.keep hg; replace hD := hD.keep hg; replace kN := kN.keep hg; replace kD := kD.keep hg; replace z0 := hg.cell z0 (by simp); replace z1 := hg.cell z1 (by simp); replace t0 := hg.cell t0 (by simp); replace t1 := hg.cell t1 (by simp); replace bx2 := (hg.block _ (lt_of_block bx2) (by simp)).trans bx2; replace hW := grown_trans hW hg; clear hg)
      | (go_at_call 238; (with_reducible refine (intMul_any hN (IsZ.of_n kD) (by omega) (by omega)).mono ?_); rintro ee v6 ⟨g6, p6, n6, c6, rfl, hX, hn6, hg⟩; replace hN := hN.keep hg; replace hD := hD.keep hg; replace kN := kN.keep hg; replace kD := kD.keep hg; replace z0 := hg.cell z0 (by simp); replace z1 := hg.cell z1 (by simp); replace t0 := hg.cell t0 (by simp); replace t1 := hg.cell t1 (by simp); replace bx2 := (hg.block _ (lt_of_block bx2) (by simp)).trans bx2; replace hW := grown_trans hW hg; clear hg)
      | (go_at_call 238; (with_reducible refine (intMul_any kN (IsZ.of_n hD) (by omega) (by omega)).mono ?_); rintro ee v7 ⟨g7, p7, n7, c7, rfl, hY, hn7, hg⟩; replace hN := hN.keep hg; replace hD := hD.keep hg; replace kN := kN.keep hg; replace kD := kD.keep hg; replace hX := hX.keep hg; replace z0 := hg.cell z0 (by simp); replace z1 := hg.cell z1 (by simp); replace t0 := hg.cell t0 (by simp); replace t1 := hg.cell t1 (by simp); replace bx2 := (hg.block _ (lt_of_block bx2) (by simp)).trans bx2; replace hW := grown_trans hW hg; clear hg)
      | (go_at_call 184; (with_reducible refine (make_v (4 * S + 20) (HT.out.keep hW) hX.z hY.z HNE.out HV.out (by omega) (by omega) (by omega)).mono ?_); rintro ee v8 ⟨g8, p8, n8, c8, q8, m8, d8, rfl, hZ, hn8, hm8, hg⟩; replace hN := hN.keep hg; replace hD := hD.keep hg; replace kN := kN.keep hg; replace kD := kD.keep hg; replace hX := hX.keep hg; replace hY := hY.keep hg; replace z0 := hg.cell z0 (by simp); replace z1 := hg.cell z1 (by simp); replace t0 := hg.cell t0 (by simp); replace t1 := hg.cell t1 (by simp); replace bx2 := (hg.block _ (lt_of_block bx2) (by simp)).trans bx2; replace hW := grown_trans hW hg; clear hg; have ff := ratbox_facts bx2; obtain ⟨l0, l1, l2, f0, f1, f2⟩ := ff))
  go_wp2_with fail
  exact bodyPost_ret (v := .tuple #[.agg #[.bool g8, .slice p8 n8 c8, .slice q8 m8 d8], .int .i64 0]) (by simp [results, Tryz.results202, go_sem, l0, l1, l2, f0, f1, f2]) rfl
    (MPost.close bx2 (by omega) hW hZ hn8 hm8)
set_option maxRecDepth 20000 in
set_option maxHeartbeats 4000000 in
theorem ratDiv_e (S : Nat) {w : World} {g1 g2 : Bool} {p1 q1 p2 q2 : Option Addr} {n1 c1 m1 d1 n2 c2 m2 d2 : Nat} {v u : Rat} (hA : IsQ w g1 p1 n1 c1 q1 m1 d1 v) (hB : IsQ w g2 p2 n2 c2 q2 m2 d2 u) (h0 : u = 0) (hn1 : n1 ≤ S) (hm1 : m1 ≤ S) (hn2 : n2 ≤ S) (hm2 : m2 ≤ S) (hS : S ≤ 40000) :
    Calls Tryz.prog 202 #[.agg #[.bool g1, .slice p1 n1 c1, .slice q1 m1 d1], .agg #[.bool g2, .slice p2 n2 c2, .slice q2 m2 d2]] w (EPost w 3) := by
  obtain ⟨N, D, hA, hE, rfl⟩ := hA
  obtain ⟨M, E, hB, hF, rfl⟩ := hB
  have hM : pn M E = 0 := by
    have := (Rat.mkRat_eq_zero (n := pn M E) (d := pd E) (Nat.ne_of_gt (pd_pos E))).1 (by rw [pq]; exact h0)
    exact this
  have HZ := hid (show pn M E * (pd D : Int) = 0 by rw [hM]; simp)
  clear hM h0
  have hW := (grown_trans (grown_trans (World.grownBy_alloc w (.cells #[.bool g1, .slice p1 n1 c1, .slice q1 m1 d1] 35) none) (World.grownBy_alloc _ (.cells #[.bool g2, .slice p2 n2 c2, .slice q2 m2 d2] 35) none)) (World.grownBy_alloc _ (.cells #[.bool false, .slice none 0 0, .slice none 0 0] 35) none))
  have bx0 : (((w.alloc (.cells #[.bool g1, .slice p1 n1 c1, .slice q1 m1 d1] 35)).alloc (.cells #[.bool g2, .slice p2 n2 c2, .slice q2 m2 d2] 35)).alloc (.cells #[.bool false, .slice none 0 0, .slice none 0 0] 35)).heap[w.heap.size]? = some (.cells #[.bool g1, .slice p1 n1 c1, .slice q1 m1 d1] 35 (0, 0)) := by
    have h0 := heap_alloc_new w (.cells #[.bool g1, .slice p1 n1 c1, .slice q1 m1 d1] 35)
    have h1 := (grown_trans (World.grownBy_alloc (w.alloc (.cells #[.bool g1, .slice p1 n1 c1, .slice q1 m1 d1] 35)) (.cells #[.bool g2, .slice p2 n2 c2, .slice q2 m2 d2] 35) none) (World.grownBy_alloc _ (.cells #[.bool false, .slice none 0 0, .slice none 0 0] 35) none)).block _ (lt_of_block h0) (by simp)
    have h2 := h1.trans h0
    simpa using h2
  obtain ⟨x0, x1, x2, _, _, _⟩ := ratbox_facts bx0
  clear bx0
  have bx1 : (((w.alloc (.cells #[.bool g1, .slice p1 n1 c1, .slice q1 m1 d1] 35)).alloc (.cells #[.bool g2, .slice p2 n2 c2, .slice q2 m2 d2] 35)).alloc (.cells #[.bool false, .slice none 0 0, .slice none 0 0] 35)).heap[w.heap.size + 1]? = some (.cells #[.bool g2, .slice p2 n2 c2, .slice q2 m2 d2] 35 (0, 0)) := by
    have h0 := heap_alloc_new (w.alloc (.cells #[.bool g1, .slice p1 n1 c1, .slice q1 m1 d1] 35)) (.cells #[.bool g2, .slice p2 n2 c2, .slice q2 m2 d2] 35)
    have h1 := (World.grownBy_alloc ((w.alloc (.cells #[.bool g1, .slice p1 n1 c1, .slice q1 m1 d1] 35)).alloc (.cells #[.bool g2, .slice p2 n2 c2, .slice q2 m2 d2] 35)) (.cells #[.bool false, .slice none 0 0, .slice none 0 0] 35) none).block _ (lt_of_block h0) (by simp)
    have h2 := h1.trans h0
    simpa using h2
  obtain ⟨y0, y1, y2, _, _, _⟩ := ratbox_facts bx1
  clear bx1
  have bx2 : (((w.alloc (.cells #[.bool g1, .slice p1 n1 c1, .slice q1 m1 d1] 35)).alloc (.cells #[.bool g2, .slice p2 n2 c2, .slice q2 m2 d2] 35)).alloc (.cells #[.bool false, .slice none 0 0, .slice none 0 0] 35)).heap[w.heap.size + 1 + 1]? = some (.cells #[.bool false, .slice none 0 0, .slice none 0 0] 35 (0, 0)) := by
    have := heap_alloc_new ((w.alloc (.cells #[.bool g1, .slice p1 n1 c1, .slice q1 m1 d1] 35)).alloc (.cells #[.bool g2, .slice p2 n2 c2, .slice q2 m2 d2] 35)) (.cells #[.bool false, .slice none 0 0, .slice none 0 0] 35)
    simpa using this
  replace hA := hA.keep hW; replace hE := hE.keep hW; replace hB := hB.keep hW; replace hF := hF.keep hW
  go_enter Tryz.func202, Tryz.ntmps202
  go_wp2_with fail
  generalize (((w.alloc (.cells #[.bool g1, .slice p1 n1 c1, .slice q1 m1 d1] 35)).alloc (.cells #[.bool g2, .slice p2 n2 c2, .slice q2 m2 d2] 35)).alloc (.cells #[.bool false, .slice none 0 0, .slice none 0 0] 35)) = w0 at *
  refine (parts_any hA hE (by omega) (by omega)).mono ?_
  rintro ee v1 ⟨g3, p3, n3, c3, q3, m3, d3, rfl, hN, hD, hn3, hm3, hg⟩
  replace hA := hA.keep hg; replace hE := hE.keep hg; replace hB := hB.keep hg; replace hF := hF.keep hg
  replace x0 := hg.cell x0 (by simp); replace x1 := hg.cell x1 (by simp); replace x2 := hg.cell x2 (by simp); replace y0 := hg.cell y0 (by simp)
  replace y1 := hg.cell y1 (by simp); replace y2 := hg.cell y2 (by simp); replace bx2 := (hg.block _ (lt_of_block bx2) (by simp)).trans bx2; replace hW := grown_trans hW hg
  clear hg
  have hK1 := lt_of_block bx2
  have hg := World.grownBy_alloc v1 (.cells #[.bool g3, .slice p3 n3 c3] 33) none
  have hb := heap_alloc_new v1 (.cells #[.bool g3, .slice p3 n3 c3] 33)
  replace hA := hA.keep hg; replace hE := hE.keep hg; replace hB := hB.keep hg; replace hF := hF.keep hg
  replace hN := hN.keep hg; replace hD := hD.keep hg; replace x0 := hg.cell x0 (by simp); replace x1 := hg.cell x1 (by simp)
  replace x2 := hg.cell x2 (by simp); replace y0 := hg.cell y0 (by simp); replace y1 := hg.cell y1 (by simp); replace y2 := hg.cell y2 (by simp)
  replace bx2 := (hg.block _ (lt_of_block bx2) (by simp)).trans bx2; replace hW := grown_trans hW hg
  obtain ⟨z0, z1, _, _⟩ := intbox_facts hb
  clear hg hb
  go_wp2_with fail
  generalize v1.alloc (.cells #[.bool g3, .slice p3 n3 c3] 33) = u1 at *
  generalize v1.heap.size = K1 at *
  refine (parts_any hB hF (by omega) (by omega)).mono ?_
  rintro ee v2 ⟨g4, p4, n4, c4, q4, m4, d4, rfl, kN, kD, hn4, hm4, hg⟩
  replace hA := hA.keep hg; replace hE := hE.keep hg; replace hB := hB.keep hg; replace hF := hF.keep hg
  replace hN := hN.keep hg; replace hD := hD.keep hg; replace x0 := hg.cell x0 (by simp); replace x1 := hg.cell x1 (by simp)
  replace x2 := hg.cell x2 (by simp); replace y0 := hg.cell y0 (by simp); replace y1 := hg.cell y1 (by simp); replace y2 := hg.cell y2 (by simp)
  replace z0 := hg.cell z0 (by simp); replace z1 := hg.cell z1 (by simp); replace bx2 := (hg.block _ (lt_of_block bx2) (by simp)).trans bx2; replace hW := grown_trans hW hg
  clear hg
  have hK2 := lt_of_block bx2
  have hg := World.grownBy_alloc v2 (.cells #[.bool g4, .slice p4 n4 c4] 33) none
  have hb := heap_alloc_new v2 (.cells #[.bool g4, .slice p4 n4 c4] 33)
  replace hA := hA.keep hg; replace hE := hE.keep hg; replace hB := hB.keep hg; replace hF := hF.keep hg
  replace hN := hN.keep hg; replace hD := hD.keep hg; replace kN := kN.keep hg; replace kD := kD.keep hg
  replace x0 := hg.cell x0 (by simp); replace x1 := hg.cell x1 (by simp); replace x2 := hg.cell x2 (by simp); replace y0 := hg.cell y0 (by simp)
  replace y1 := hg.cell y1 (by simp); replace y2 := hg.cell y2 (by simp); replace z0 := hg.cell z0 (by simp); replace z1 := hg.cell z1 (by simp)
  replace bx2 := (hg.block _ (lt_of_block bx2) (by simp)).trans bx2; replace hW := grown_trans hW hg
  obtain ⟨t0, t1, _, _⟩ := intbox_facts hb
  clear hg hb
  clear x0 x1 x2 y0 y1 y2
  clear hA hE hB hF
  go_wp2_with fail
  generalize v2.alloc (.cells #[.bool g4, .slice p4 n4 c4] 33) = u2 at *
  generalize v2.heap.size = K2 at *
  have hg := grown_drew u2 none
  replace hN := hN.keep hg; replace hD := hD.keep hg; replace kN := kN.keep hg; replace kD := kD.keep hg
  replace z0 := hg.cell z0 (by simp); replace z1 := hg.cell z1 (by simp); replace t0 := hg.cell t0 (by simp); replace t1 := hg.cell t1 (by simp)
  replace bx2 := (hg.block _ (lt_of_block bx2) (by simp)).trans bx2; replace hW := grown_trans hW hg
  clear hg
  go_region_held3 (fun w' => w'.cell? ⟨K1, 0, none⟩ = some (.bool g3) ∧ w'.cell? ⟨K1, 1, none⟩ = some (.slice p3 n3 c3) ∧ w'.cell? ⟨K2, 0, none⟩ = some (.bool g4) ∧ w'.cell? ⟨K2, 1, none⟩ = some (.slice p4 n4 c4)) ((try go_split_ands) <;> (repeat' apply And.intro) <;> (repeat (first | (with_reducible assumption) | (with_reducible refine (grown_setCell _ _ _).cell ?_ (by simp; omega)) | (with_reducible refine (World.grownBy_alloc _ _ none).cell ?_ (by simp)) | (with_reducible refine (grown_drew _ none).cell ?_ (by simp)))))
    (first
      | (go_at_call 133; (with_reducible refine (wholeS_any _ _ _).mono ?_); rintro ee v5 ⟨rfl, hg⟩; replace hX := hX.keep hg; replace hN := hN.keep hg; replace hD := hD.keep hg; replace kN := kN.keep hg; replace kD := kD.keep hg; replace z0 := hg.cell z0 (by simp); replace z1 := hg.cell z1 (by simp); replace t0 := hg.cell t0 (by simp); replace t1 := hg.cell t1 (by simp); replace bx2 := (hg.block _ (lt_of_block bx2) (by simp)).trans bx2; replace hW := grown_trans hW hg; clear hg)
      | (go_at_call 133; (with_reducible refine (wholeS_any _ _ _).mono ?_); rintro ee v5 ⟨rfl, hg⟩; replace hN := hN.keep hg; replace hD := hD.keep hg; replace kN := kN.keep hg; replace kD := kD.keep hg; replace z0 := hg.cell z0 (by simp); replace z1 := hg.cell z1 (by simp); replace t0 := hg.cell t0 (by simp); replace t1 := hg.cell t1 (by simp); replace bx2 := (hg.block _ (lt_of_block bx2) (by simp)).trans bx2; replace hW := grown_trans hW hg; clear hg)
      | (go_at_call 238; (with_reducible refine (intMul_any hN (IsZ.of_n kD) (by omega) (by omega)).mono ?_); rintro ee v6 ⟨g6, p6, n6, c6, rfl, hX, hn6, hg⟩; replace hN := hN.keep hg; replace hD := hD.keep hg; replace kN := kN.keep hg; replace kD := kD.keep hg; replace z0 := hg.cell z0 (by simp); replace z1 := hg.cell z1 (by simp); replace t0 := hg.cell t0 (by simp); replace t1 := hg.cell t1 (by simp); replace bx2 := (hg.block _ (lt_of_block bx2) (by simp)).trans bx2; replace hW := grown_trans hW hg; clear hg)
      | (go_at_call 238; (with_reducible refine (intMul_any kN (IsZ.of_n hD) (by omega) (by omega)).mono ?_); rintro ee v7 ⟨g7, p7, n7, c7, rfl, hY, hn7, hg⟩; replace hN := hN.keep hg; replace hD := hD.keep hg; replace kN := kN.keep hg; replace kD := kD.keep hg; replace hX := hX.keep hg; replace z0 := hg.cell z0 (by simp); replace z1 := hg.cell z1 (by simp); replace t0 := hg.cell t0 (by simp); replace t1 := hg.cell t1 (by simp); replace bx2 := (hg.block _ (lt_of_block bx2) (by simp)).trans bx2; replace hW := grown_trans hW hg; clear hg)
      | (go_at_call 184; (with_reducible refine (ratMake_e hX.z (HZ.out ▸ hY.z) (by omega) (by omega)).mono ?_); rintro ee v8 ⟨rfl, hg⟩; replace hN := hN.keep hg; replace hD := hD.keep hg; replace kN := kN.keep hg; replace kD := kD.keep hg; replace hX := hX.keep hg; replace hY := hY.keep hg; replace z0 := hg.cell z0 (by simp); replace z1 := hg.cell z1 (by simp); replace t0 := hg.cell t0 (by simp); replace t1 := hg.cell t1 (by simp); replace bx2 := (hg.block _ (lt_of_block bx2) (by simp)).trans bx2; replace hW := grown_trans hW hg; clear hg; have ff := ratbox_facts bx2; obtain ⟨l0, l1, l2, f0, f1, f2⟩ := ff))
  go_wp2_with fail
  exact bodyPost_ret (v := .tuple #[.agg #[.bool false, .slice none 0 0, .slice none 0 0], .int .i64 3]) (by simp [results, Tryz.results202, go_sem, l0, l1, l2, f0, f1, f2]) rfl
    (EPost.close (by omega) hW _ _ _ _)
theorem IsI.sort {w : World} {g : Bool} {p : Option Addr} {n c : Nat} {Z : Int} (h : IsI w g p n c Z) :
    (n = 0 ∧ g = false ∧ cmpI Z 0 = 0) ∨ (0 < n ∧ g = true ∧ cmpI Z 0 = -1) ∨ (0 < n ∧ g = false ∧ cmpI Z 0 = 1) := by
  have hp := h.1.pos_len
  have hg := h.2
  rcases Int.lt_trichotomy Z 0 with h1 | h1 | h1
  · refine .inr (.inl ⟨?_, by rw [hg]; simpa using h1, by unfold cmpI; simp [h1]⟩)
    have : decide (0 < Z.natAbs) = true := by simp; omega
    rw [this] at hp; simpa using hp
  · subst h1
    refine .inl ⟨?_, by rw [hg]; rfl, rfl⟩
    simp at hp; omega
  · refine .inr (.inr ⟨?_, by rw [hg]; simp; omega, by unfold cmpI; simp [h1]; omega⟩)
    have : decide (0 < Z.natAbs) = true := by simp; omega
    rw [this] at hp; simpa using hp
theorem IsI.sgn {w : World} {g : Bool} {p : Option Addr} {n c : Nat} {Z : Int} (h : IsI w g p n c Z) : (g = true ∧ Z < 0) ∨ (g = false ∧ 0 ≤ Z) := by
  have hg := h.2
  by_cases h1 : Z < 0
  · exact .inl ⟨by rw [hg]; simpa using h1, h1⟩
  · exact .inr ⟨by rw [hg]; simpa using h1, by omega⟩
theorem boxed {w w1 : World} {G : Nat} {u v : Value} (hg : w.grownBy w1 none) (hG : w.heap.size ≤ G) : w.grownBy ((w1.setCell ⟨G, 0, none⟩ u).setCell ⟨G, 1, none⟩ v) none :=
  grown_new hg (grown_trans (grown_setCell w1 ⟨G, 0, none⟩ u) (grown_setCell _ ⟨G, 1, none⟩ v)) (fun g e => by cases e; exact hG)
set_option maxHeartbeats 2000000 in
theorem rSign_any {w : World} {g : Bool} {p : Option Addr} {n c : Nat} {Z : Int} (hA : IsZ w g p n c Z) (hn : n ≤ 400000) :
    Calls Tryz.prog 247 #[.agg #[.bool g, .slice p n c]] w fun e w' => e = .returned (.int .i64 (cmpI Z 0)) ∧ w.grownBy w' none := by
  have hg1 := World.grownBy_alloc w (.cells #[.bool g, .slice p n c] 33) none
  go_enter Tryz.func247, Tryz.ntmps247
  go_wp2_with fail
  refine (rNorm_any (hA.keep hg1) hn).mono ?_
  rintro e w1 ⟨g1, p1, n1, c1, rfl, h1, hn1, hg⟩
  have hc1 := gcell hg
  have hf1 := gfree hg
  have hz1 := hg.size
  simp at hz1
  have HG := hid (fun u v => boxed (u := u) (v := v) (grown_trans hg1 hg) (Nat.le_refl _))
  have hs := h1.sort
  clear h1 hA hn hn1
  rcases hs with ⟨rfl, rfl, hr⟩ | ⟨h0, rfl, hr⟩ | ⟨h0, rfl, hr⟩
  · have HR := hid hr
    clear hr
    go_wp2
    go_ret
    exact ⟨by rw [HR.out]; rfl, HG.out _ _⟩
  all_goals
    have HR := hid hr
    clear hr
    have hne : ((n1 : Int) == 0) = false := by simp; omega
    go_wp2
    go_ret
    exact ⟨by rw [HR.out]; rfl, HG.out _ _⟩
theorem IsI.zero (w : World) : IsI w false none 0 0 0 := ⟨IsC.nil w, by simp⟩
theorem rn_zero : rn 0 1 = 0 := by unfold rn; simp [sg_zero]
theorem rd_zero : rd 0 1 = 1 := by unfold rd; simp
set_option maxHeartbeats 4000000 in
theorem over_any {w : World} {g : Bool} {p q : Option Addr} {n c m d D : Nat} {N : Int} (hA : IsZ w g p n c N) (hB : IsN w q m d D) (hn : n ≤ 300000) (hm : m ≤ 300000) :
    Calls Tryz.prog 205 #[.agg #[.bool g, .slice p n c], .slice q m d] w (LPost w (rn (pn N D) (pd D)) (rd (pn N D) (pd D)) n (m + 4)) := by
  have hb2 := grown_trans (World.grownBy_alloc w (.cells #[.bool g, .slice p n c] 33) none) (World.grownBy_alloc _ (.cells #[.bool false, .slice none 0 0, .slice none 0 0] 35) none)
  have H1 := hid (refNorm_n (hB.keep hb2) (by omega))
  by_cases e : D = 0
  · have e1 : pn N D = 0 := by unfold pn; rw [if_pos e]
    have e2 : pd D = 1 := by unfold pd; rw [if_pos e]
    rw [e1, e2, rn_zero, rd_zero]
    have HO := hid (fun W => refOf_c 1 (by unfold W64; omega) W)
    go_enter Tryz.func205, Tryz.ntmps205
    go_wp2_with fail
    refine H1.out.mono ?_
    rintro ee w1 ⟨p1, n1, c1, rfl, h1, hn1, hg1⟩
    obtain rfl : n1 = 0 := by
      rcases h1.zero_len with ⟨h, _⟩ | ⟨_, h⟩
      · exact h
      · omega
    go_wp2_with fail
    refine (HO.out _).mono ?_
    rintro ee w2 ⟨p2, n2, c2, rfl, h2, hn2, hg2⟩
    have hg := grown_trans hg1 hg2
    have hc := gcell hg
    have hf := gfree hg
    have hz := hg.size
    simp at hz
    go_wp2_with fail
    exact bodyPost_ret (v := .agg #[.bool false, .slice none 0 0, .slice p2 n2 c2]) (by simp [results, Tryz.results205, go_sem, hc]) rfl
      (LPost.close ((hg.block _ (by simp) (by simp)).trans (second w _ _)) (by omega) (grown_trans hb2 hg) (IsI.zero _) h2 (by omega) (by omega))
  · have e1 : pn N D = N := by unfold pn; rw [if_neg e]
    have e2 : pd D = D := by unfold pd; rw [if_neg e]
    rw [e1, e2]
    have HG := hid (fun W (h : w.grownBy W none) => refGcd_n (hA.1.keep h) (hB.keep h) (by omega) (by omega))
    unfold RPost at HG
    have GP : 0 < Nat.gcd N.natAbs D := Nat.gcd_pos_of_pos_right _ (by omega)
    have SF := hid (sg_flag hA (Nat.gcd N.natAbs D))
    obtain ⟨G, hG⟩ : ∃ G, G = Nat.gcd N.natAbs D := ⟨_, rfl⟩
    have HGE := hid hG
    rw [← hG] at HG GP SF
    clear hG
    have GPH := hid GP
    go_enter Tryz.func205, Tryz.ntmps205
    go_wp2_with fail
    refine H1.out.mono ?_
    rintro ee w1 ⟨p1, n1, c1, rfl, h1, hn1, hg1⟩
    have t0 : (((n1 : Int) == 0) = false) := beq_eq_false_iff_ne.2 (by rcases h1.zero_len with ⟨_, h⟩ | ⟨h, _⟩ <;> omega)
    clear h1
    have hc := gcell hg1
    have hf := gfree hg1
    have hz := hg1.size
    simp at hz
    go_wp2_with fail
    refine (HG.out _ (grown_trans hb2 hg1)).mono ?_
    rintro ee w2 ⟨p2, n2, c2, rfl, h2, hn2, hg2⟩
    replace hg2 := grown_trans hg1 hg2
    clear hc hf hz
    have hc := gcell hg2
    have hf := gfree hg2
    have hz := hg2.size
    simp at hz
    go_wp2_with fail
    refine (refDivMod_n (hA.1.keep (grown_trans hb2 hg2)) h2.isN (by omega) (by omega) GPH.out).mono ?_
    rintro ee w3 ⟨p3, n3, c3, p4, n4, c4, rfl, h3, h4, hn3, hn4, hg3⟩
    replace h2 := h2.keep hg3
    replace hg3 := grown_trans hg2 hg3
    clear hc hf hz
    have hc := gcell hg3
    have hf := gfree hg3
    have hz := hg3.size
    simp at hz
    go_wp2_with fail
    refine (refDivMod_n (hB.keep (grown_trans hb2 hg3)) h2.isN (by omega) (by omega) GPH.out).mono ?_
    rintro ee w4 ⟨p5, n5, c5, p6, n6, c6, rfl, h5, h6, hn5, hn6, hg4⟩
    replace h3 := h3.keep hg4
    replace hg4 := grown_trans hg3 hg4
    clear hc hf hz
    have hc := gcell hg4
    have hf := gfree hg4
    have hz := hg4.size
    simp at hz
    go_wp2_with fail
    refine (rNorm_any (IsZ.mk g h3.isN) (by omega)).mono ?_
    rintro ee w5 ⟨g7, p7, n7, c7, rfl, h7, hn7, hg5⟩
    replace h5 := h5.keep hg5
    replace hg5 := grown_trans hg4 hg5
    clear hc hf hz
    have hc := gcell hg5
    have hf := gfree hg5
    have hz := hg5.size
    simp at hz
    go_wp2_with fail
    exact bodyPost_ret (v := .agg #[.bool g7, .slice p7 n7 c7, .slice p5 n5 c5]) (by simp [results, Tryz.results205, go_sem, hc]) rfl
      (LPost.close ((hg5.block _ (by simp) (by simp)).trans (second w _ _)) (by omega) (grown_trans hb2 hg5) (by unfold rn; rw [← HGE.out, ← SF.out]; exact h7) (by unfold rd; rw [← HGE.out]; exact h5) (by omega) (by omega))
theorem norm3_any {w : World} {g : Bool} {p q : Option Addr} {n c m d D : Nat} {N : Int} (hA : IsZ w g p n c N) (hB : IsN w q m d D) (hn : n ≤ 300000) (hm : m ≤ 300000) :
    Calls Tryz.prog 207 #[.agg #[.bool g, .slice p n c, .slice q m d]] w (LPost w (rn (pn N D) (pd D)) (rd (pn N D) (pd D)) n (m + 4)) := by
  have hb2 := grown_trans (World.grownBy_alloc w (.cells #[.bool g, .slice p n c, .slice q m d] 35) none) (World.grownBy_alloc _ (.cells #[.bool false, .slice none 0 0, .slice none 0 0] 35) none)
  have HO := hid (over_any (hA.keep hb2) (hB.keep hb2) hn hm)
  generalize rn (pn N D) (pd D) = X at *
  generalize rd (pn N D) (pd D) = Y at *
  unfold LPost at HO
  go_enter Tryz.func207, Tryz.ntmps207
  go_wp2_with fail
  refine HO.out.mono ?_
  rintro ee w1 ⟨g1, p1, n1, c1, q1, m1, d1, rfl, h1, h2, hn1, hm1, hg⟩
  have hc := gcell hg
  have hf := gfree hg
  have hz := hg.size
  simp at hz
  go_wp2_with fail
  exact bodyPost_ret (v := .agg #[.bool g1, .slice p1 n1 c1, .slice q1 m1 d1]) (by simp [results, Tryz.results207, go_sem, hc]) rfl
    (LPost.close ((hg.block _ (by simp) (by simp)).trans (second w _ _)) (by omega) (grown_trans hb2 hg) h1 h2 hn1 hm1)
theorem over_v (B : Nat) {w : World} {g : Bool} {p q : Option Addr} {n c m d D : Nat} {N : Int} {v : Rat} (hA : IsZ w g p n c N) (hB : IsN w q m d D) (hv : mkRat N D = v) (hn : n ≤ B) (hm : m + 4 ≤ B) (hx : B ≤ 300000) :
    Calls Tryz.prog 205 #[.agg #[.bool g, .slice p n c], .slice q m d] w (VPost w v B) :=
  (over_any hA hB (by omega) (by omega)).mono fun _ _ h => h.v (by rw [rn_q (pd_pos D), pq, hv]) (by rw [rd_q (pd_pos D), pq, hv]) hn hm
theorem norm_v (S : Nat) {w : World} {g1 : Bool} {p1 q1 : Option Addr} {n1 c1 m1 d1 : Nat} {v : Rat} (hA : IsQ w g1 p1 n1 c1 q1 m1 d1 v) (hn1 : n1 ≤ S) (hm1 : m1 ≤ S) (hS : S ≤ 40000) :
    Calls Tryz.prog 207 #[.agg #[.bool g1, .slice p1 n1 c1, .slice q1 m1 d1]] w (VPost w v (S + 4)) := by
  obtain ⟨N, D, h1, h2, rfl⟩ := hA
  exact (norm3_any h1 h2 (by omega) (by omega)).mono fun _ _ h => h.v (by rw [rn_q (pd_pos D), pq]) (by rw [rd_q (pd_pos D), pq]) (by omega) (by omega)
theorem wholeT_any {w : World} (p : Option Addr) (n c : Nat) :
    Calls Tryz.prog 210 #[.slice p n c] w fun e w' => e = .returned (.agg #[.bool false, .slice p n c]) ∧ w.grownBy w' none := by
  go_enter Tryz.func210, Tryz.ntmps210
  go_wp2
  exact bodyPost_ret (v := .agg #[.bool false, .slice p n c]) (by simp [results, Tryz.results210, go_sem]) rfl ⟨rfl, World.grownBy_alloc w _ none⟩
set_option maxRecDepth 20000 in
set_option maxHeartbeats 4000000 in
theorem rNeg3_v (S : Nat) {w : World} {g1 : Bool} {p1 q1 : Option Addr} {n1 c1 m1 d1 : Nat} {v : Rat} (hA : IsQ w g1 p1 n1 c1 q1 m1 d1 v) (hn1 : n1 ≤ S) (hm1 : m1 ≤ S) (hS : S ≤ 40000) :
    Calls Tryz.prog 166 #[.agg #[.bool g1, .slice p1 n1 c1, .slice q1 m1 d1]] w (VPost w (-v) (S + 4)) := by
  obtain ⟨N, D, hA, hE, rfl⟩ := hA
  have HV := hid (show mkRat (-N) D = -mkRat N D from (Rat.neg_mkRat N D).symm)
  have hW := (grown_trans (World.grownBy_alloc w (.cells #[.bool g1, .slice p1 n1 c1, .slice q1 m1 d1] 35) none) (World.grownBy_alloc _ (.cells #[.bool false, .slice none 0 0, .slice none 0 0] 35) none))
  have bx0 : ((w.alloc (.cells #[.bool g1, .slice p1 n1 c1, .slice q1 m1 d1] 35)).alloc (.cells #[.bool false, .slice none 0 0, .slice none 0 0] 35)).heap[w.heap.size]? = some (.cells #[.bool g1, .slice p1 n1 c1, .slice q1 m1 d1] 35 (0, 0)) := by
    have h0 := heap_alloc_new w (.cells #[.bool g1, .slice p1 n1 c1, .slice q1 m1 d1] 35)
    have h1 := (World.grownBy_alloc (w.alloc (.cells #[.bool g1, .slice p1 n1 c1, .slice q1 m1 d1] 35)) (.cells #[.bool false, .slice none 0 0, .slice none 0 0] 35) none).block _ (lt_of_block h0) (by simp)
    have h2 := h1.trans h0
    simpa using h2
  obtain ⟨x0, x1, x2, _, _, _⟩ := ratbox_facts bx0
  clear bx0
  have bx1 : ((w.alloc (.cells #[.bool g1, .slice p1 n1 c1, .slice q1 m1 d1] 35)).alloc (.cells #[.bool false, .slice none 0 0, .slice none 0 0] 35)).heap[w.heap.size + 1]? = some (.cells #[.bool false, .slice none 0 0, .slice none 0 0] 35 (0, 0)) := by
    have := heap_alloc_new (w.alloc (.cells #[.bool g1, .slice p1 n1 c1, .slice q1 m1 d1] 35)) (.cells #[.bool false, .slice none 0 0, .slice none 0 0] 35)
    simpa using this
  replace hA := hA.keep hW; replace hE := hE.keep hW
  go_enter Tryz.func166, Tryz.ntmps166
  go_wp2_with fail
  generalize ((w.alloc (.cells #[.bool g1, .slice p1 n1 c1, .slice q1 m1 d1] 35)).alloc (.cells #[.bool false, .slice none 0 0, .slice none 0 0] 35)) = w0 at *
  have hg := grown_drew w0 none
  replace hA := hA.keep hg; replace hE := hE.keep hg; replace x0 := hg.cell x0 (by simp); replace x1 := hg.cell x1 (by simp)
  replace x2 := hg.cell x2 (by simp); replace bx1 := (hg.block _ (lt_of_block bx1) (by simp)).trans bx1; replace hW := grown_trans hW hg
  clear hg
  go_region_held3 (fun w' => w'.cell? ⟨w.heap.size, 0, none⟩ = some (.bool g1) ∧ w'.cell? ⟨w.heap.size, 1, none⟩ = some (.slice p1 n1 c1) ∧ w'.cell? ⟨w.heap.size, 2, none⟩ = some (.slice q1 m1 d1)) ((try go_split_ands) <;> (repeat' apply And.intro) <;> (repeat (first | (with_reducible assumption) | (with_reducible refine (grown_setCell _ _ _).cell ?_ (by first | (simp; omega) | simp)) | (with_reducible refine (World.grownBy_alloc _ _ none).cell ?_ (by simp)) | (with_reducible refine (grown_drew _ none).cell ?_ (by simp)))))
    (first
      | (go_at_call 206; (with_reducible refine (rNeg_any hA (by omega)).mono ?_); rintro ee v1 ⟨g5, p5, n5, c5, rfl, hX, hn5, hg⟩; replace hA := hA.keep hg; replace hE := hE.keep hg; replace x0 := hg.cell x0 (by simp); replace x1 := hg.cell x1 (by simp); replace x2 := hg.cell x2 (by simp); replace bx1 := (hg.block _ (lt_of_block bx1) (by simp)).trans bx1; replace hW := grown_trans hW hg; clear hg)
      | (go_at_call 205; (with_reducible refine (over_v (S + 4) hX.z hE HV.out (by omega) (by omega) (by omega)).mono ?_); rintro ee v2 ⟨g6, p6, n6, c6, q6, m6, d6, rfl, hZ, hn6, hm6, hg⟩; replace hA := hA.keep hg; replace hE := hE.keep hg; replace hX := hX.keep hg; replace x0 := hg.cell x0 (by simp); replace x1 := hg.cell x1 (by simp); replace x2 := hg.cell x2 (by simp); replace bx1 := (hg.block _ (lt_of_block bx1) (by simp)).trans bx1; replace hW := grown_trans hW hg; clear hg; have ff := ratbox_facts bx1; obtain ⟨l0, l1, l2, f0, f1, f2⟩ := ff))
  go_wp2_with fail
  exact bodyPost_ret (v := .agg #[.bool g6, .slice p6 n6 c6, .slice q6 m6 d6]) (by simp [results, Tryz.results166, go_sem, l0, l1, l2, f0, f1, f2]) rfl
    (VPost.close bx1 (by omega) hW hZ hn6 hm6)
set_option maxRecDepth 20000 in
set_option maxHeartbeats 4000000 in
theorem rMake_e (S : Nat) {w : World} {g1 g2 : Bool} {p1 p2 : Option Addr} {n1 c1 n2 c2 : Nat} {N M : Int} (hA : IsZ w g1 p1 n1 c1 N) (hB : IsZ w g2 p2 n2 c2 M) (h0 : M = 0) (hn1 : n1 ≤ S) (hn2 : n2 ≤ S) (hS : S ≤ 60000) :
    Calls Tryz.prog 208 #[.agg #[.bool g1, .slice p1 n1 c1], .agg #[.bool g2, .slice p2 n2 c2]] w (EPost w 3) := by
  have HS := hid (show cmpI M 0 = 0 by rw [h0]; decide)
  clear h0
  have hW := (grown_trans (grown_trans (World.grownBy_alloc w (.cells #[.bool g1, .slice p1 n1 c1] 33) none) (World.grownBy_alloc _ (.cells #[.bool g2, .slice p2 n2 c2] 33) none)) (World.grownBy_alloc _ (.cells #[.bool false, .slice none 0 0, .slice none 0 0] 35) none))
  have bx0 : (((w.alloc (.cells #[.bool g1, .slice p1 n1 c1] 33)).alloc (.cells #[.bool g2, .slice p2 n2 c2] 33)).alloc (.cells #[.bool false, .slice none 0 0, .slice none 0 0] 35)).heap[w.heap.size]? = some (.cells #[.bool g1, .slice p1 n1 c1] 33 (0, 0)) := by
    have h0 := heap_alloc_new w (.cells #[.bool g1, .slice p1 n1 c1] 33)
    have h1 := (grown_trans (World.grownBy_alloc (w.alloc (.cells #[.bool g1, .slice p1 n1 c1] 33)) (.cells #[.bool g2, .slice p2 n2 c2] 33) none) (World.grownBy_alloc _ (.cells #[.bool false, .slice none 0 0, .slice none 0 0] 35) none)).block _ (lt_of_block h0) (by simp)
    have h2 := h1.trans h0
    simpa using h2
  have bx1 : (((w.alloc (.cells #[.bool g1, .slice p1 n1 c1] 33)).alloc (.cells #[.bool g2, .slice p2 n2 c2] 33)).alloc (.cells #[.bool false, .slice none 0 0, .slice none 0 0] 35)).heap[w.heap.size + 1]? = some (.cells #[.bool g2, .slice p2 n2 c2] 33 (0, 0)) := by
    have h0 := heap_alloc_new (w.alloc (.cells #[.bool g1, .slice p1 n1 c1] 33)) (.cells #[.bool g2, .slice p2 n2 c2] 33)
    have h1 := (World.grownBy_alloc ((w.alloc (.cells #[.bool g1, .slice p1 n1 c1] 33)).alloc (.cells #[.bool g2, .slice p2 n2 c2] 33)) (.cells #[.bool false, .slice none 0 0, .slice none 0 0] 35) none).block _ (lt_of_block h0) (by simp)
    have h2 := h1.trans h0
    simpa using h2
  obtain ⟨y0, y1, _, _⟩ := intbox_facts bx1
  clear bx1
  have bx2 : (((w.alloc (.cells #[.bool g1, .slice p1 n1 c1] 33)).alloc (.cells #[.bool g2, .slice p2 n2 c2] 33)).alloc (.cells #[.bool false, .slice none 0 0, .slice none 0 0] 35)).heap[w.heap.size + 1 + 1]? = some (.cells #[.bool false, .slice none 0 0, .slice none 0 0] 35 (0, 0)) := by
    have := heap_alloc_new ((w.alloc (.cells #[.bool g1, .slice p1 n1 c1] 33)).alloc (.cells #[.bool g2, .slice p2 n2 c2] 33)) (.cells #[.bool false, .slice none 0 0, .slice none 0 0] 35)
    simpa using this
  replace hA := hA.keep hW; replace hB := hB.keep hW
  go_enter Tryz.func208, Tryz.ntmps208
  go_wp2_with fail
  generalize (((w.alloc (.cells #[.bool g1, .slice p1 n1 c1] 33)).alloc (.cells #[.bool g2, .slice p2 n2 c2] 33)).alloc (.cells #[.bool false, .slice none 0 0, .slice none 0 0] 35)) = w0 at *
  refine (rSign_any hB (by omega)).mono ?_
  rintro ee v1 ⟨rfl, hg⟩
  rw [HS.out]
  replace hA := hA.keep hg; replace hB := hB.keep hg; replace y0 := hg.cell y0 (by simp); replace y1 := hg.cell y1 (by simp)
  replace bx0 := (hg.block _ (lt_of_block bx0) (by simp)).trans bx0; replace bx2 := (hg.block _ (lt_of_block bx2) (by simp)).trans bx2; replace hW := grown_trans hW hg
  clear hg
  obtain ⟨l0, l1, l2, f0, f1, f2⟩ := ratbox_facts bx2
  go_wp2_with fail
  exact bodyPost_ret (v := .tuple #[.agg #[.bool false, .slice none 0 0, .slice none 0 0], .int .i64 3]) (by simp [results, Tryz.results208, go_sem, l0, l1, l2, f0, f1, f2]) rfl
    (EPost.close (by omega) hW _ _ _ _)
set_option maxRecDepth 20000 in
set_option maxHeartbeats 4000000 in
theorem rMake_v (S : Nat) {w : World} {g1 g2 : Bool} {p1 p2 : Option Addr} {n1 c1 n2 c2 : Nat} {N M : Int} (hA : IsZ w g1 p1 n1 c1 N) (hB : IsZ w g2 p2 n2 c2 M) {v : Rat} (h0 : M ≠ 0) (hv : (N : Rat) / (M : Rat) = v) (hn1 : n1 ≤ S) (hn2 : n2 ≤ S) (hS : S ≤ 60000) :
    Calls Tryz.prog 208 #[.agg #[.bool g1, .slice p1 n1 c1], .agg #[.bool g2, .slice p2 n2 c2]] w (MPost w v (4 * S + 20)) := by
  have HV := qn_q (N := N) h0
  rw [hv] at HV
  unfold qn at HV
  have t0 : ((cmpI M 0 == 0) = false) := beq_eq_false_iff_ne.2 (by rw [Ne, cmpI_zero_iff]; exact h0)
  have hs := hB.2
  clear hv
  cases g2
  · rw [sg_false] at hs
    rw [if_neg (by omega)] at HV
    replace HV := hid HV
    clear hs h0
    have hW := (grown_trans (grown_trans (World.grownBy_alloc w (.cells #[.bool g1, .slice p1 n1 c1] 33) none) (World.grownBy_alloc _ (.cells #[.bool false, .slice p2 n2 c2] 33) none)) (World.grownBy_alloc _ (.cells #[.bool false, .slice none 0 0, .slice none 0 0] 35) none))
    have bx0 : (((w.alloc (.cells #[.bool g1, .slice p1 n1 c1] 33)).alloc (.cells #[.bool false, .slice p2 n2 c2] 33)).alloc (.cells #[.bool false, .slice none 0 0, .slice none 0 0] 35)).heap[w.heap.size]? = some (.cells #[.bool g1, .slice p1 n1 c1] 33 (0, 0)) := by
      have h0 := heap_alloc_new w (.cells #[.bool g1, .slice p1 n1 c1] 33)
      have h1 := (grown_trans (World.grownBy_alloc (w.alloc (.cells #[.bool g1, .slice p1 n1 c1] 33)) (.cells #[.bool false, .slice p2 n2 c2] 33) none) (World.grownBy_alloc _ (.cells #[.bool false, .slice none 0 0, .slice none 0 0] 35) none)).block _ (lt_of_block h0) (by simp)
      have h2 := h1.trans h0
      simpa using h2
    have bx1 : (((w.alloc (.cells #[.bool g1, .slice p1 n1 c1] 33)).alloc (.cells #[.bool false, .slice p2 n2 c2] 33)).alloc (.cells #[.bool false, .slice none 0 0, .slice none 0 0] 35)).heap[w.heap.size + 1]? = some (.cells #[.bool false, .slice p2 n2 c2] 33 (0, 0)) := by
      have h0 := heap_alloc_new (w.alloc (.cells #[.bool g1, .slice p1 n1 c1] 33)) (.cells #[.bool false, .slice p2 n2 c2] 33)
      have h1 := (World.grownBy_alloc ((w.alloc (.cells #[.bool g1, .slice p1 n1 c1] 33)).alloc (.cells #[.bool false, .slice p2 n2 c2] 33)) (.cells #[.bool false, .slice none 0 0, .slice none 0 0] 35) none).block _ (lt_of_block h0) (by simp)
      have h2 := h1.trans h0
      simpa using h2
    obtain ⟨y0, y1, _, _⟩ := intbox_facts bx1
    clear bx1
    have bx2 : (((w.alloc (.cells #[.bool g1, .slice p1 n1 c1] 33)).alloc (.cells #[.bool false, .slice p2 n2 c2] 33)).alloc (.cells #[.bool false, .slice none 0 0, .slice none 0 0] 35)).heap[w.heap.size + 1 + 1]? = some (.cells #[.bool false, .slice none 0 0, .slice none 0 0] 35 (0, 0)) := by
      have := heap_alloc_new ((w.alloc (.cells #[.bool g1, .slice p1 n1 c1] 33)).alloc (.cells #[.bool false, .slice p2 n2 c2] 33)) (.cells #[.bool false, .slice none 0 0, .slice none 0 0] 35)
      simpa using this
    replace hA := hA.keep hW; replace hB := hB.keep hW
    go_enter Tryz.func208, Tryz.ntmps208
    go_wp2_with fail
    generalize (((w.alloc (.cells #[.bool g1, .slice p1 n1 c1] 33)).alloc (.cells #[.bool false, .slice p2 n2 c2] 33)).alloc (.cells #[.bool false, .slice none 0 0, .slice none 0 0] 35)) = w0 at *
    refine (rSign_any hB (by omega)).mono ?_
    rintro ee v1 ⟨rfl, hg⟩
    replace hA := hA.keep hg; replace hB := hB.keep hg; replace y0 := hg.cell y0 (by simp); replace y1 := hg.cell y1 (by simp)
    replace bx0 := (hg.block _ (lt_of_block bx0) (by simp)).trans bx0; replace bx2 := (hg.block _ (lt_of_block bx2) (by simp)).trans bx2; replace hW := grown_trans hW hg
    clear hg
    obtain ⟨x0, x1, fx0, fx1⟩ := intbox_facts bx0
    go_wp2_with fail
    refine (over_v (4 * S + 20) hA hB.1 HV.out (by omega) (by omega) (by omega)).mono ?_
    rintro ee v2 ⟨g6, p6, n6, c6, q6, m6, d6, rfl, hZ, hn6, hm6, hg⟩
    replace hA := hA.keep hg; replace hB := hB.keep hg; replace y0 := hg.cell y0 (by simp); replace y1 := hg.cell y1 (by simp)
    replace x0 := hg.cell x0 (by simp); replace x1 := hg.cell x1 (by simp); replace bx0 := (hg.block _ (lt_of_block bx0) (by simp)).trans bx0; replace bx2 := (hg.block _ (lt_of_block bx2) (by simp)).trans bx2
    replace hW := grown_trans hW hg
    clear hg
    obtain ⟨l0, l1, l2, f0, f1, f2⟩ := ratbox_facts bx2
    go_wp2_with fail
    exact bodyPost_ret (v := .tuple #[.agg #[.bool g6, .slice p6 n6 c6, .slice q6 m6 d6], .int .i64 0]) (by simp [results, Tryz.results208, go_sem, l0, l1, l2, f0, f1, f2]) rfl
      (MPost.close bx2 (by omega) hW hZ hn6 hm6)
  · rw [sg_true] at hs
    rw [if_pos (by omega)] at HV
    replace HV := hid HV
    clear hs h0
    have hW := (grown_trans (grown_trans (World.grownBy_alloc w (.cells #[.bool g1, .slice p1 n1 c1] 33) none) (World.grownBy_alloc _ (.cells #[.bool true, .slice p2 n2 c2] 33) none)) (World.grownBy_alloc _ (.cells #[.bool false, .slice none 0 0, .slice none 0 0] 35) none))
    have bx0 : (((w.alloc (.cells #[.bool g1, .slice p1 n1 c1] 33)).alloc (.cells #[.bool true, .slice p2 n2 c2] 33)).alloc (.cells #[.bool false, .slice none 0 0, .slice none 0 0] 35)).heap[w.heap.size]? = some (.cells #[.bool g1, .slice p1 n1 c1] 33 (0, 0)) := by
      have h0 := heap_alloc_new w (.cells #[.bool g1, .slice p1 n1 c1] 33)
      have h1 := (grown_trans (World.grownBy_alloc (w.alloc (.cells #[.bool g1, .slice p1 n1 c1] 33)) (.cells #[.bool true, .slice p2 n2 c2] 33) none) (World.grownBy_alloc _ (.cells #[.bool false, .slice none 0 0, .slice none 0 0] 35) none)).block _ (lt_of_block h0) (by simp)
      have h2 := h1.trans h0
      simpa using h2
    have bx1 : (((w.alloc (.cells #[.bool g1, .slice p1 n1 c1] 33)).alloc (.cells #[.bool true, .slice p2 n2 c2] 33)).alloc (.cells #[.bool false, .slice none 0 0, .slice none 0 0] 35)).heap[w.heap.size + 1]? = some (.cells #[.bool true, .slice p2 n2 c2] 33 (0, 0)) := by
      have h0 := heap_alloc_new (w.alloc (.cells #[.bool g1, .slice p1 n1 c1] 33)) (.cells #[.bool true, .slice p2 n2 c2] 33)
      have h1 := (World.grownBy_alloc ((w.alloc (.cells #[.bool g1, .slice p1 n1 c1] 33)).alloc (.cells #[.bool true, .slice p2 n2 c2] 33)) (.cells #[.bool false, .slice none 0 0, .slice none 0 0] 35) none).block _ (lt_of_block h0) (by simp)
      have h2 := h1.trans h0
      simpa using h2
    obtain ⟨y0, y1, _, _⟩ := intbox_facts bx1
    clear bx1
    have bx2 : (((w.alloc (.cells #[.bool g1, .slice p1 n1 c1] 33)).alloc (.cells #[.bool true, .slice p2 n2 c2] 33)).alloc (.cells #[.bool false, .slice none 0 0, .slice none 0 0] 35)).heap[w.heap.size + 1 + 1]? = some (.cells #[.bool false, .slice none 0 0, .slice none 0 0] 35 (0, 0)) := by
      have := heap_alloc_new ((w.alloc (.cells #[.bool g1, .slice p1 n1 c1] 33)).alloc (.cells #[.bool true, .slice p2 n2 c2] 33)) (.cells #[.bool false, .slice none 0 0, .slice none 0 0] 35)
      simpa using this
    replace hA := hA.keep hW; replace hB := hB.keep hW
    go_enter Tryz.func208, Tryz.ntmps208
    go_wp2_with fail
    generalize (((w.alloc (.cells #[.bool g1, .slice p1 n1 c1] 33)).alloc (.cells #[.bool true, .slice p2 n2 c2] 33)).alloc (.cells #[.bool false, .slice none 0 0, .slice none 0 0] 35)) = w0 at *
    refine (rSign_any hB (by omega)).mono ?_
    rintro ee v1 ⟨rfl, hg⟩
    replace hA := hA.keep hg; replace hB := hB.keep hg; replace y0 := hg.cell y0 (by simp); replace y1 := hg.cell y1 (by simp)
    replace bx0 := (hg.block _ (lt_of_block bx0) (by simp)).trans bx0; replace bx2 := (hg.block _ (lt_of_block bx2) (by simp)).trans bx2; replace hW := grown_trans hW hg
    clear hg
    obtain ⟨x0, x1, fx0, fx1⟩ := intbox_facts bx0
    go_wp2_with fail
    refine (rNeg_any hA (by omega)).mono ?_
    rintro ee v2 ⟨g5, p5, n5, c5, rfl, hX, hn5, hg⟩
    replace hA := hA.keep hg; replace hB := hB.keep hg; replace y0 := hg.cell y0 (by simp); replace y1 := hg.cell y1 (by simp)
    replace x0 := hg.cell x0 (by simp); replace x1 := hg.cell x1 (by simp); replace bx0 := (hg.block _ (lt_of_block bx0) (by simp)).trans bx0; replace bx2 := (hg.block _ (lt_of_block bx2) (by simp)).trans bx2
    replace hW := grown_trans hW hg
    clear hg
    obtain ⟨_, _, fx0, fx1⟩ := intbox_facts bx0
    have hs := set2_grown v2 w.heap.size (.bool g5) (.slice p5 n5 c5)
    have hX2 := hX.z.other2 bx0 hs
    have hB2 := hB.other2 bx0 hs
    have y02 := hs.cell y0 (by simp)
    have y12 := hs.cell y1 (by simp)
    have bx22 := (hs.block _ (lt_of_block bx2) (by simp; omega)).trans bx2
    have hW2 := grown_new hW hs (fun g e => by cases e; omega)
    have bx02 := set2_block bx0 g5 p5 n5 c5
    obtain ⟨x02, x12, _, _⟩ := intbox_facts bx02
    clear bx02
    go_wp2_with fail
    generalize (v2.setCell ⟨w.heap.size, 0, none⟩ (.bool g5)).setCell ⟨w.heap.size, 1, none⟩ (.slice p5 n5 c5) = v3 at *
    refine (over_v (4 * S + 20) hX2 hB2.1 HV.out (by omega) (by omega) (by omega)).mono ?_
    rintro ee v4 ⟨g6, p6, n6, c6, q6, m6, d6, rfl, hZ, hn6, hm6, hg⟩
    replace bx22 := (hg.block _ (lt_of_block bx22) (by simp)).trans bx22
    replace hW2 := grown_trans hW2 hg
    obtain ⟨l0, l1, l2, f0, f1, f2⟩ := ratbox_facts bx22
    go_wp2_with fail
    exact bodyPost_ret (v := .tuple #[.agg #[.bool g6, .slice p6 n6 c6, .slice q6 m6 d6], .int .i64 0]) (by simp [results, Tryz.results208, go_sem, l0, l1, l2, f0, f1, f2]) rfl
      (MPost.close bx22 (by omega) hW2 hZ hn6 hm6)
end Go.Proofs.YtjpkncgfpbhnaaaGreatDoor
