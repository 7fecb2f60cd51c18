/-
  Contract of integer.sum.
-/
import Derived.Test.YtknmdmofmcfjhaaGreatDoorInt
set_option linter.unusedVariables false
set_option linter.unusedSimpArgs false
namespace Go.Proofs.YtknmdmofmcfjhaaGreatDoor
open Go.RowKit Nm

/-- a valid Int of Z is returned -/
def IPost (w : World) (Z : Int) (B : Nat) (e : Ending) (w' : World) : Prop :=
  ∃ g p n c, e = .returned (.agg #[.bool g, .slice p n c]) ∧ IsI w' g p n c Z ∧ n ≤ B ∧ w.grownBy w' none

/-- slices of numbers are not met where a struct lies -/
theorem IRd.other {w w' : World} {k : IntKind} {a : Option Addr} {n c : Nat} {xs : List Nat} {g : Nat} {cs : Array Value} {T : TypeId} {fz : Nat × Nat} (h : IRd w k a n c xs) (hb : w.heap[g]? = some (.cells cs T fz))
    (hcs : ∀ (j : Nat) (x : Int), cs[j]? ≠ some (.int k x)) (hg : w.grownBy w' (some g)) : IRd w' k a n c xs := by
  refine ⟨h.len, h.cap, h.max, fun j hj => ?_⟩
  obtain ⟨b, o, rfl, hc⟩ := h.cel j hj
  refine ⟨b, o, rfl, ?_⟩
  by_cases hbg : b = g
  · subst hbg
    rw [cell_of_row w b (o + j) cs T fz hb] at hc
    exact absurd hc (hcs _ _)
  · exact hg.cell hc (by simpa using hbg)

theorem two_cells (x : Bool) (y : Option Addr) (a b : Nat) (j : Nat) (k : IntKind) (z : Int) : (#[Value.bool x, Value.slice y a b])[j]? ≠ some (.int k z) := by
  match j with
  | 0 => simp
  | 1 => simp
  | j + 2 => simp

theorem IPost.close {w W w5 : World} {G : Nat} {x : Bool} {y : Option Addr} {a b : Nat} {T : TypeId} {g5 : Bool} {p4 : Option Addr} {n4 c4 : Nat} {Z : Int} {B : Nat}
    (hg3 : w.grownBy W none) (hW : W.heap[G]? = some (.cells #[.bool x, .slice y a b] T (0, 0))) (hG : w.heap.size ≤ G) (hg35 : W.grownBy w5 none) (h5 : IsI w5 g5 p4 n4 c4 Z) (hn : n4 ≤ B) :
    IPost w Z B (.returned (.agg #[.bool g5, .slice p4 n4 c4])) ((w5.setCell ⟨G, 0, none⟩ (.bool g5)).setCell ⟨G, 1, none⟩ (.slice p4 n4 c4)) := by
  have hb : w5.heap[G]? = some (.cells #[.bool x, .slice y a b] T (0, 0)) := (hg35.block G (lt_of_block hW) (by simp)).trans hW
  have h56 : w5.grownBy ((w5.setCell ⟨G, 0, none⟩ (.bool g5)).setCell ⟨G, 1, none⟩ (.slice p4 n4 c4)) (some G) := grown_trans (grown_setCell _ _ _) (grown_setCell _ ⟨G, 1, none⟩ _)
  exact ⟨g5, p4, n4, c4, rfl, ⟨IRd.other h5.1 hb (fun j z => two_cells x y a b j _ z) h56, h5.2⟩, hn, grown_new (grown_trans hg3 hg35) h56 (fun g e => by cases e; exact hG)⟩

/-- the last of three blocks -/
theorem third (w : World) (A B C : Obj) : (((w.alloc A).alloc B).alloc C).heap[w.heap.size + 2]? = some C := by
  have := heap_alloc_new ((w.alloc A).alloc B) C
  simpa using this
theorem second (w : World) (A B : Obj) : ((w.alloc A).alloc B).heap[w.heap.size + 1]? = some B := by
  have := heap_alloc_new (w.alloc A) B
  simpa using this

theorem less_any {w : World} {p q : Option Addr} {n c m d N M : Nat} (hA : IsN w p n c N) (hB : IsN w q m d M) :
    Calls Tryz.prog 200 #[.slice p n c, .slice q m d] w fun e w' => e = .returned (.bool (decide (N < M))) ∧ w.grownBy w' none := by
  have H := hid (natCmp_n hA hB)
  rcases Nat.lt_trichotomy N M with h | h | h
  · have HE := hid (cmpI_lt h)
    rw [decide_eq_true h]
    clear h
    go_enter Tryz.func200, Tryz.ntmps200
    go_wp2_with (go_at_call 168; refine H.out.mono ?_; rw [HE.out]; rintro e w1 ⟨rfl, hg⟩)
    go_ret
    exact ⟨rfl, hg⟩
  · subst h
    have HE := hid (cmpI_eq (N : Int))
    rw [decide_eq_false (Nat.lt_irrefl _)]
    go_enter Tryz.func200, Tryz.ntmps200
    go_wp2_with (go_at_call 168; refine H.out.mono ?_; rw [HE.out]; rintro e w1 ⟨rfl, hg⟩)
    go_ret
    exact ⟨rfl, hg⟩
  · have HE := hid (cmpI_gt h)
    rw [decide_eq_false (by omega)]
    clear h
    go_enter Tryz.func200, Tryz.ntmps200
    go_wp2_with (go_at_call 168; refine H.out.mono ?_; rw [HE.out]; rintro e w1 ⟨rfl, hg⟩)
    go_ret
    exact ⟨rfl, hg⟩

set_option maxHeartbeats 2000000 in
theorem intSum_same {w : World} {p q : Option Addr} {n c m d N M : Nat} (s gb : Bool) (hA : IsN w p n c N) (hB : IsN w q m d M) (hn : n ≤ 400000) (hm : m ≤ 400000) :
    Calls Tryz.prog 178 #[.agg #[.bool s, .slice p n c], .agg #[.bool gb, .slice q m d], .bool s] w (IPost w (sg s (N + M)) (n + m + 1)) := by
  have hg3 := grown_trans (grown_trans (World.grownBy_alloc w (.cells #[.bool s, .slice p n c] 27) none) (World.grownBy_alloc _ (.cells #[.bool gb, .slice q m d] 27) none)) (World.grownBy_alloc _ (.cells #[.bool false, .slice none 0 0] 27) none)
  go_enter Tryz.func178, Tryz.ntmps178
  go_wp2_with fail
  refine (natAdd_n (hA.keep hg3) (hB.keep hg3) (by omega) (by omega)).mono ?_
  rintro e w4 ⟨p4, n4, c4, rfl, h4, hn4, hg4⟩
  go_wp2_with fail
  refine (signed_any h4 s).mono ?_
  rintro e w5 ⟨g5, rfl, h5, hg5⟩
  have hg35 := grown_trans hg4 hg5
  have hc5 := gcell hg35
  have hf5 := gfree hg35
  have hz5 := hg35.size
  simp at hz5
  go_wp2_with fail
  exact bodyPost_ret (v := .agg #[.bool g5, .slice p4 n4 c4]) (by simp [results, Tryz.results178, go_sem, hc5]) rfl (IPost.close hg3 (third _ _ _ _) (by omega) hg35 h5 (by omega))

theorem sub_cast {N M : Nat} (h : N < M) (s : Bool) : sg (!s) N + sg s M = sg s (M - N) := by cases s <;> simp [sg] <;> omega
theorem sub_cast2 {N M : Nat} (h : M ≤ N) (s : Bool) : sg (!s) N + sg s M = sg (!s) (N - M) := by cases s <;> simp [sg] <;> omega

set_option maxHeartbeats 2000000 in
theorem intSum_diff {w : World} {p q : Option Addr} {n c m d N M : Nat} (s gb : Bool) (hA : IsN w p n c N) (hB : IsN w q m d M) (hn : n ≤ 400000) (hm : m ≤ 400000) :
    Calls Tryz.prog 178 #[.agg #[.bool (!s), .slice p n c], .agg #[.bool gb, .slice q m d], .bool s] w (IPost w (sg (!s) N + sg s M) (n + m + 1)) := by
  have hg3 := grown_trans (grown_trans (World.grownBy_alloc w (.cells #[.bool (!s), .slice p n c] 27) none) (World.grownBy_alloc _ (.cells #[.bool gb, .slice q m d] 27) none)) (World.grownBy_alloc _ (.cells #[.bool false, .slice none 0 0] 27) none)
  have hne : (((!s) == s) = false) := by cases s <;> rfl
  rcases Nat.lt_or_ge N M with hlt | hle
  · rw [sub_cast hlt s]
    have HD := hid (less_any (hA.keep hg3) (hB.keep hg3))
    rw [decide_eq_true hlt] at HD
    go_enter Tryz.func178, Tryz.ntmps178
    go_wp2_with fail
    refine HD.out.mono ?_
    rintro e w3 ⟨rfl, hgx⟩
    have hx5 := gcell hgx
    have hy5 := gfree hgx
    have hw5 := hgx.size
    simp at hw5
    go_wp2_with fail
    refine (natSub_n ((hB.keep hg3).keep hgx) ((hA.keep hg3).keep hgx) (by omega) (by omega) (by omega)).mono ?_
    rintro e w4 ⟨p4, n4, c4, rfl, h4, hn4, hg4⟩
    have hg34 := grown_trans hgx hg4
    clear hx5 hy5 hw5
    have hx5 := gcell hg34
    have hy5 := gfree hg34
    have hw5 := hg34.size
    simp at hw5
    go_wp2_with fail
    refine (signed_any h4 s).mono ?_
    rintro e w5 ⟨g5, rfl, h5, hg5⟩
    have hg35 := grown_trans hg34 hg5
    clear hx5 hy5 hw5
    have hc5 := gcell hg35
    have hf5 := gfree hg35
    have hz5 := hg35.size
    simp at hz5
    go_wp2_with fail
    exact bodyPost_ret (v := .agg #[.bool g5, .slice p4 n4 c4]) (by simp [results, Tryz.results178, go_sem, hc5]) rfl (IPost.close hg3 (third _ _ _ _) (by omega) hg35 h5 (by omega))
  · rw [sub_cast2 hle s]
    have HD := hid (less_any (hA.keep hg3) (hB.keep hg3))
    rw [decide_eq_false (by omega)] at HD
    go_enter Tryz.func178, Tryz.ntmps178
    go_wp2_with fail
    refine HD.out.mono ?_
    rintro e w3 ⟨rfl, hgx⟩
    have hx5 := gcell hgx
    have hy5 := gfree hgx
    have hw5 := hgx.size
    simp at hw5
    go_wp2_with fail
    refine (natSub_n ((hA.keep hg3).keep hgx) ((hB.keep hg3).keep hgx) (by omega) (by omega) hle).mono ?_
    rintro e w4 ⟨p4, n4, c4, rfl, h4, hn4, hg4⟩
    have hg34 := grown_trans hgx hg4
    clear hx5 hy5 hw5
    have hx5 := gcell hg34
    have hy5 := gfree hg34
    have hw5 := hg34.size
    simp at hw5
    go_wp2_with fail
    refine (signed_any h4 (!s)).mono ?_
    rintro e w5 ⟨g5, rfl, h5, hg5⟩
    have hg35 := grown_trans hg34 hg5
    clear hx5 hy5 hw5
    have hc5 := gcell hg35
    have hf5 := gfree hg35
    have hz5 := hg35.size
    simp at hz5
    go_wp2_with fail
    exact bodyPost_ret (v := .agg #[.bool g5, .slice p4 n4 c4]) (by simp [results, Tryz.results178, go_sem, hc5]) rfl (IPost.close hg3 (third _ _ _ _) (by omega) hg35 h5 (by omega))

theorem intSum_any {w : World} {p q : Option Addr} {n c m d : Nat} {ga gb : Bool} {X Y : Int} (s : Bool) (hA : IsZ w ga p n c X) (hB : IsZ w gb q m d Y) (hn : n ≤ 400000) (hm : m ≤ 400000) :
    Calls Tryz.prog 178 #[.agg #[.bool ga, .slice p n c], .agg #[.bool gb, .slice q m d], .bool s] w (IPost w (X + sg s Y.natAbs) (n + m + 1)) := by
  obtain ⟨h1, h2⟩ := hA
  rw [h2]
  generalize X.natAbs = N at *
  by_cases e : ga = s
  · subst e
    have e2 : sg ga N + sg ga Y.natAbs = sg ga (N + Y.natAbs) := by cases ga <;> simp [sg]; omega
    rw [e2]
    exact intSum_same ga gb h1 hB.1 hn hm
  · obtain rfl : ga = !s := by cases ga <;> cases s <;> simp_all
    exact intSum_diff s gb h1 hB.1 hn hm
end Go.Proofs.YtknmdmofmcfjhaaGreatDoor
