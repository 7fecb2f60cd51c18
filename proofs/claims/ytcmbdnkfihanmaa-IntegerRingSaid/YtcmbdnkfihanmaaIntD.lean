/-
  Contract of integer.DivMod, given that of natural.DivMod.
-/
import Derived.Test.YtcmbdnkfihanmaaIntOf
set_option linter.unusedVariables false
set_option linter.unusedSimpArgs false
namespace Go.Proofs.Ytcmbdnkfihanmaa
open Go.RowKit Nm

/-- the quotient and the rest of two integers, given by signs and absolute values -/
def qZ (ga gb : Bool) (N M : Nat) : Int := sg (ga != gb) (if ga = true ∧ 0 < N % M then N / M + 1 else N / M)
def rZ (ga : Bool) (N M : Nat) : Nat := if ga = true ∧ 0 < N % M then M - N % M else N % M

/-- what integer.DivMod returns -/
def DmI (w : World) (Q R : Int) (B C : Nat) (e : Ending) (w' : World) : Prop :=
  ∃ g p n c h q m d, e = .returned (.tuple #[.agg #[.bool g, .slice p n c], .agg #[.bool h, .slice q m d], .int .i64 0]) ∧ IsI w' g p n c Q ∧ IsI w' h q m d R ∧ n ≤ B ∧ m ≤ C ∧ w.grownBy w' none

theorem IsI.other {w w' : World} {g : Bool} {p : Option Addr} {n c : Nat} {Z : Int} {G : Nat} {x : Bool} {y : Option Addr} {a b : Nat} {T : TypeId} (h : IsI w g p n c Z) (hb : w.heap[G]? = some (.cells #[.bool x, .slice y a b] T (0, 0))) (hg : w.grownBy w' (some G)) : IsI w' g p n c Z :=
  ⟨IRd.other h.1 hb (fun j z => two_cells x y a b j _ z) hg, h.2⟩

theorem DmI.close {w W w5 : World} {G G2 : Nat} {x x2 : Bool} {y y2 : Option Addr} {a b a2 b2 : Nat} {T T2 : TypeId} {g h : Bool} {p q : Option Addr} {n c m d : Nat} {Q R : Int} {B C : Nat}
    (hg3 : w.grownBy W none) (hW : W.heap[G]? = some (.cells #[.bool x, .slice y a b] T (0, 0))) (hW2 : W.heap[G2]? = some (.cells #[.bool x2, .slice y2 a2 b2] T2 (0, 0))) (hG : w.heap.size ≤ G) (hG2 : w.heap.size ≤ G2) (hne : G2 ≠ G)
    (hg35 : W.grownBy w5 none) (h5 : IsI w5 g p n c Q) (h6 : IsI w5 h q m d R) (hn : n ≤ B) (hm : m ≤ C) :
    DmI w Q R B C (.returned (.tuple #[.agg #[.bool g, .slice p n c], .agg #[.bool h, .slice q m d], .int .i64 0]))
      ((((w5.setCell ⟨G, 0, none⟩ (.bool g)).setCell ⟨G, 1, none⟩ (.slice p n c)).setCell ⟨G2, 0, none⟩ (.bool h)).setCell ⟨G2, 1, none⟩ (.slice q m d)) := by
  have hb : w5.heap[G]? = some (.cells #[.bool x, .slice y a b] T (0, 0)) := (hg35.block G (lt_of_block hW) (by simp)).trans hW
  have hb2 : w5.heap[G2]? = some (.cells #[.bool x2, .slice y2 a2 b2] T2 (0, 0)) := (hg35.block G2 (lt_of_block hW2) (by simp)).trans hW2
  have h56 : w5.grownBy ((w5.setCell ⟨G, 0, none⟩ (.bool g)).setCell ⟨G, 1, none⟩ (.slice p n c)) (some G) := grown_trans (grown_setCell _ _ _) (grown_setCell _ ⟨G, 1, none⟩ _)
  have hb3 := (h56.block G2 (lt_of_block hb2) (by simpa using hne)).trans hb2
  generalize (w5.setCell ⟨G, 0, none⟩ (.bool g)).setCell ⟨G, 1, none⟩ (.slice p n c) = w6 at *
  have h67 : w6.grownBy ((w6.setCell ⟨G2, 0, none⟩ (.bool h)).setCell ⟨G2, 1, none⟩ (.slice q m d)) (some G2) := grown_trans (grown_setCell _ _ _) (grown_setCell _ ⟨G2, 1, none⟩ _)
  exact ⟨g, p, n, c, h, q, m, d, rfl, (h5.other hb h56).other hb3 h67, (h6.other hb h56).other hb3 h67, hn, hm,
    grown_new (grown_new (grown_trans hg3 hg35) h56 (fun g e => by cases e; exact hG)) h67 (fun g e => by cases e; exact hG2)⟩

theorem four_third (w : World) (A B C D : Obj) : ((((w.alloc A).alloc B).alloc C).alloc D).heap[w.heap.size + 2]? = some C := by
  exact (Below.heap_alloc (((w.alloc A).alloc B).alloc C) D (w.heap.size + 2) (by simp)).trans (third w A B C)
theorem four_fourth (w : World) (A B C D : Obj) : ((((w.alloc A).alloc B).alloc C).alloc D).heap[w.heap.size + 3]? = some D := by
  have := heap_alloc_new (((w.alloc A).alloc B).alloc C) D
  simpa using this

theorem dg_div_len {N M n : Nat} (h : N < 65536 ^ n) : (dg 65536 (N / M)).length ≤ n := dg_length_le (by omega) (Nat.lt_of_le_of_lt (Nat.div_le_self _ _) h)
theorem dg_mod_len {N M m : Nat} (h : M < 65536 ^ m) (hM : 0 < M) : (dg 65536 (N % M)).length ≤ m := dg_length_le (by omega) (Nat.lt_trans (Nat.mod_lt _ hM) h)

set_option maxHeartbeats 4000000 in
theorem intDivMod_any {w : World} {ga gb : Bool} {p q : Option Addr} {n m c d N M : Nat} (hA : IsN w p n c N) (hB : IsN w q m d M) (hM : 0 < M) (hn : n ≤ 400000) (hm : m ≤ 400000)
    (hD : ∀ W, w.grownBy W none → Calls Try.prog 65 #[.slice p n c, .slice q m d] W (DmPost W N M)) :
    Calls Try.prog 45 #[.agg #[.bool ga, .slice p n c], .agg #[.bool gb, .slice q m d]] w (DmI w (qZ ga gb N M) (rZ ga N M) (n + 2) m) := by
  have hg4 := grown_trans (grown_trans (grown_trans (World.grownBy_alloc w (.cells #[.bool ga, .slice p n c] 25) none) (World.grownBy_alloc _ (.cells #[.bool gb, .slice q m d] 25) none)) (World.grownBy_alloc _ (.cells #[.bool false, .slice none 0 0] 25) none)) (World.grownBy_alloc _ (.cells #[.bool false, .slice none 0 0] 25) none)
  have HD := hid (hD _ hg4)
  have l1 := dg_div_len (M := M) hA.lt
  have l2 := dg_mod_len (N := N) hB.lt hM
  have hlast : 0 < (dg 65536 (N % M)).length ↔ 0 < N % M := by
    constructor
    · intro h
      rcases Nat.eq_zero_or_pos (N % M) with h0 | h0
      · rw [h0] at h; exact absurd h (by simp [dg_zero])
      · exact h0
    · intro h
      rcases Nat.eq_zero_or_pos (dg 65536 (N % M)).length with h0 | h0
      · have := V_dg (B := 65536) (by omega) (N % M)
        rw [List.eq_nil_of_length_eq_zero h0] at this; simp at this; omega
      · exact h0
  clear hD
  unfold DmPost at HD
  by_cases hcase : ga = true ∧ 0 < N % M
  · have hq : qZ ga gb N M = sg (ga != gb) (N / M + 1) := by unfold qZ; rw [if_pos hcase]
    have hr : rZ ga N M = M - N % M := by unfold rZ; rw [if_pos hcase]
    rw [hq, hr]
    obtain ⟨rfl, hpos⟩ := hcase
    have hlp := hlast.2 hpos
    rw [show (true != gb) = (!gb) by cases gb <;> rfl]
    have hle : N % M ≤ M := Nat.le_of_lt (Nat.mod_lt _ hM)
    have HLE := hid hle
    clear hq hr hlast hpos hle
    generalize (dg 65536 (N / M)).length = lq at *
    generalize (dg 65536 (N % M)).length = lr at *
    have hlpi : (0 : Int) < (lr : Int) := by omega
    go_enter Try.func45, Try.ntmps45
    go_wp2_with fail
    refine HD.out.mono ?_
    rintro e w1 ⟨p1, p2, c1, c2, rfl, h1, h2, hg⟩
    have h1 : IsC w1 p1 lq c1 (N / M) := h1
    have h2 : IsC w1 p2 lr c2 (N % M) := h2
    have hB1 := (hB.keep hg4).keep hg
    have hc := gcell hg
    have hf := gfree hg
    have hz := hg.size
    simp at hz
    go_wp2_with fail
    refine (of_any 1 (by decide) _).mono ?_
    rintro e w2 ⟨p3, c3, rfl, h3, kg⟩
    have h3 : IsC w2 p3 (dg 65536 1).length c3 1 := h3
    have l3 : (dg 65536 1).length ≤ 4 := dg_len4 (by decide)
    generalize (dg 65536 1).length = n3 at *
    replace h1 := h1.keep kg; replace h2 := h2.keep kg; replace hB1 := hB1.keep kg; replace hg := grown_trans hg kg; clear kg
    clear hc hf hz
    have hc := gcell hg
    have hf := gfree hg
    have hz := hg.size
    simp at hz
    have l4 : (dg 65536 (N / M + 1)).length ≤ n + 2 := by
      refine dg_length_le (by omega) ?_
      have := hA.lt
      have h5 : N / M ≤ N := Nat.div_le_self _ _
      have h6 : 65536 ^ (n + 2) = 65536 ^ n * 4294967296 := by rw [Nat.pow_add]
      omega
    have HL4 := hid l4
    clear l4
    go_wp2_with fail
    refine (natAdd_n h1.isN h3.isN (by omega) (by omega)).mono ?_
    rintro e w3 ⟨p4, n4, c4, rfl, h4, hn4, kg⟩
    replace hn4 : n4 ≤ n + 2 := by rw [← h4.len]; exact HL4.out
    replace h2 := h2.keep kg; replace hB1 := hB1.keep kg; replace hg := grown_trans hg kg; clear kg
    clear hc hf hz
    have hc := gcell hg
    have hf := gfree hg
    have hz := hg.size
    simp at hz
    go_wp2_with fail
    refine (natSub_n hB1 h2.isN (by omega) (by omega) HLE.out).mono ?_
    rintro e w4 ⟨p5, n5, c5, rfl, h5', hn5, kg⟩
    replace h4 := h4.keep kg; replace hg := grown_trans hg kg; clear kg
    clear hc hf hz
    have hc := gcell hg
    have hf := gfree hg
    have hz := hg.size
    simp at hz
    go_wp2_with fail
    refine (signed_any h4 (!gb)).mono ?_
    rintro e v1 ⟨g5, rfl, h5, kg⟩
    replace h5' := h5'.keep kg; replace hg := grown_trans hg kg; clear kg
    clear hc hf hz
    have hc := gcell hg
    have hf := gfree hg
    have hz := hg.size
    simp at hz
    go_wp2_with fail
    refine (signed_any h5' false).mono ?_
    rintro e v2 ⟨g6, rfl, h6, kg⟩
    replace h5 := h5.keep kg; replace hg := grown_trans hg kg; clear kg
    clear hc hf hz
    have hc := gcell hg
    have hf := gfree hg
    have hz := hg.size
    simp at hz
    go_wp2_with fail
    exact bodyPost_ret (v := .tuple #[.agg #[.bool g5, .slice p4 n4 c4], .agg #[.bool g6, .slice p5 n5 c5], .int .i64 0]) (by simp [results, Try.results45, go_sem, hc]) rfl
      (DmI.close hg4 (four_third _ _ _ _ _) (four_fourth _ _ _ _ _) (by omega) (by omega) (by omega) hg h5 h6 (by omega) (by omega))
  · have hq : qZ ga gb N M = sg (ga != gb) (N / M) := by unfold qZ; rw [if_neg hcase]
    have hr : rZ ga N M = N % M := by unfold rZ; rw [if_neg hcase]
    rw [hq, hr]
    have hg' : ga = false ∨ (ga = true ∧ ¬ 0 < (dg 65536 (N % M)).length) := by
      cases ga
      · exact .inl rfl
      · exact .inr ⟨rfl, fun h => hcase ⟨rfl, hlast.1 h⟩⟩
    clear hq hr hlast hcase
    generalize (dg 65536 (N / M)).length = lq at *
    generalize (dg 65536 (N % M)).length = lr at *
    rcases hg' with rfl | ⟨rfl, hlp⟩
    · rw [show (false != gb) = gb by cases gb <;> rfl]
      go_enter Try.func45, Try.ntmps45
      go_wp2_with fail
      refine HD.out.mono ?_
      rintro e w1 ⟨p1, p2, c1, c2, rfl, h1, h2, hg⟩
      have h1 : IsC w1 p1 lq c1 (N / M) := h1
      have h2 : IsC w1 p2 lr c2 (N % M) := h2
      have hc := gcell hg
      have hf := gfree hg
      have hz := hg.size
      simp at hz
      go_wp2_with fail
      refine (signed_any h1 gb).mono ?_
      rintro e v1 ⟨g5, rfl, h5, kg⟩
      replace h2 := h2.keep kg; replace hg := grown_trans hg kg; clear kg
      clear hc hf hz
      have hc := gcell hg
      have hf := gfree hg
      have hz := hg.size
      simp at hz
      go_wp2_with fail
      refine (signed_any h2 false).mono ?_
      rintro e v2 ⟨g6, rfl, h6, kg⟩
      replace h5 := h5.keep kg; replace hg := grown_trans hg kg; clear kg
      clear hc hf hz
      have hc := gcell hg
      have hf := gfree hg
      have hz := hg.size
      simp at hz
      go_wp2_with fail
      exact bodyPost_ret (v := .tuple #[.agg #[.bool g5, .slice p1 lq c1], .agg #[.bool g6, .slice p2 lr c2], .int .i64 0]) (by simp [results, Try.results45, go_sem, hc]) rfl
        (DmI.close hg4 (four_third _ _ _ _ _) (four_fourth _ _ _ _ _) (by omega) (by omega) (by omega) hg h5 h6 (by omega) (by omega))
    · have hlpi : ¬ ((0 : Int) < (lr : Int)) := by omega
      rw [show (true != gb) = (!gb) by cases gb <;> rfl]
      go_enter Try.func45, Try.ntmps45
      go_wp2_with fail
      refine HD.out.mono ?_
      rintro e w1 ⟨p1, p2, c1, c2, rfl, h1, h2, hg⟩
      have h1 : IsC w1 p1 lq c1 (N / M) := h1
      have h2 : IsC w1 p2 lr c2 (N % M) := h2
      have hc := gcell hg
      have hf := gfree hg
      have hz := hg.size
      simp at hz
      go_wp2_with fail
      refine (signed_any h1 (!gb)).mono ?_
      rintro e v1 ⟨g5, rfl, h5, kg⟩
      replace h2 := h2.keep kg; replace hg := grown_trans hg kg; clear kg
      clear hc hf hz
      have hc := gcell hg
      have hf := gfree hg
      have hz := hg.size
      simp at hz
      go_wp2_with fail
      refine (signed_any h2 false).mono ?_
      rintro e v2 ⟨g6, rfl, h6, kg⟩
      replace h5 := h5.keep kg; replace hg := grown_trans hg kg; clear kg
      clear hc hf hz
      have hc := gcell hg
      have hf := gfree hg
      have hz := hg.size
      simp at hz
      go_wp2_with fail
      exact bodyPost_ret (v := .tuple #[.agg #[.bool g5, .slice p1 lq c1], .agg #[.bool g6, .slice p2 lr c2], .int .i64 0]) (by simp [results, Try.results45, go_sem, hc]) rfl
        (DmI.close hg4 (four_third _ _ _ _ _) (four_fourth _ _ _ _ _) (by omega) (by omega) (by omega) hg h5 h6 (by omega) (by omega))
end Go.Proofs.Ytcmbdnkfihanmaa
