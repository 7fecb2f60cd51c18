/-
  Contracts of the reference of integers: Right, Sign, Cmp, Of; integer.Right in general.
-/
import Derived.Test.YtdnafpdaoancbaaDoorIntR
import Derived.Test.YtdnafpdaoancbaaDoorIntOf
import Derived.Test.YtdnafpdaoancbaaDoorIntD
import Derived.Deep.RegionHeld3
set_option linter.unusedVariables false
set_option linter.unusedSimpArgs false
namespace Go.Proofs.YtdnafpdaoancbaaDoor
open Go.RowKit Nm


theorem IsI.sort {w : World} {g : Bool} {p : Option Addr} {n c : Nat} {Z : Int} (h : IsI w g p n c Z) :
    (n = 0 ∧ g = false ∧ cmpI Z 0 = 0) ∨ (0 < n ∧ g = true ∧ cmpI Z 0 = -1) ∨ (0 < n ∧ g = false ∧ cmpI Z 0 = 1) := by
  have hp := h.1.pos_len
  have hg := h.2
  rcases Int.lt_trichotomy Z 0 with h1 | h1 | h1
  · refine .inr (.inl ⟨?_, by rw [hg]; simpa using h1, by unfold cmpI; simp [h1]⟩)
    have : decide (0 < Z.natAbs) = true := by simp; omega
    rw [this] at hp; simpa using hp
  · subst h1
    refine .inl ⟨?_, by rw [hg]; rfl, rfl⟩
    simp at hp; omega
  · refine .inr (.inr ⟨?_, by rw [hg]; simp; omega, by unfold cmpI; simp [h1]; omega⟩)
    have : decide (0 < Z.natAbs) = true := by simp; omega
    rw [this] at hp; simpa using hp

theorem IsI.sgn {w : World} {g : Bool} {p : Option Addr} {n c : Nat} {Z : Int} (h : IsI w g p n c Z) : (g = true ∧ Z < 0) ∨ (g = false ∧ 0 ≤ Z) := by
  have hg := h.2
  by_cases h1 : Z < 0
  · exact .inl ⟨by rw [hg]; simpa using h1, h1⟩
  · exact .inr ⟨by rw [hg]; simpa using h1, by omega⟩

theorem boxed {w w1 : World} {G : Nat} {u v : Value} (hg : w.grownBy w1 none) (hG : w.heap.size ≤ G) : w.grownBy ((w1.setCell ⟨G, 0, none⟩ u).setCell ⟨G, 1, none⟩ v) none :=
  grown_new hg (grown_trans (grown_setCell w1 ⟨G, 0, none⟩ u) (grown_setCell _ ⟨G, 1, none⟩ v)) (fun g e => by cases e; exact hG)


/-- two integers are stored into two boxes, one after the other -/
theorem two_set {w w5 : World} {G G2 : Nat} {x x2 : Bool} {y y2 : Option Addr} {a b a2 b2 : Nat} {T T2 : TypeId} {g h : Bool} {p q : Option Addr} {n c m d : Nat} {Q R : Int}
    (hb : w5.heap[G]? = some (.cells #[.bool x, .slice y a b] T (0, 0))) (hb2 : w5.heap[G2]? = some (.cells #[.bool x2, .slice y2 a2 b2] T2 (0, 0))) (hG : w.heap.size ≤ G) (hG2 : w.heap.size ≤ G2) (hne : G2 ≠ G)
    (hg : w.grownBy w5 none) (h5 : IsI w5 g p n c Q) (h6 : IsI w5 h q m d R) :
    ∃ W, ((((w5.setCell ⟨G, 0, none⟩ (.bool g)).setCell ⟨G, 1, none⟩ (.slice p n c)).setCell ⟨G2, 0, none⟩ (.bool h)).setCell ⟨G2, 1, none⟩ (.slice q m d)) = W ∧
      IsI W g p n c Q ∧ IsI W h q m d R ∧ w.grownBy W none ∧ W.cell? ⟨G, 0, none⟩ = some (.bool g) ∧ W.cell? ⟨G, 1, none⟩ = some (.slice p n c) ∧ W.cell? ⟨G2, 0, none⟩ = some (.bool h) ∧ W.cell? ⟨G2, 1, none⟩ = some (.slice q m d) := by
  have k0 := cell_of_row w5 G 0 _ _ _ hb
  have k1 := cell_of_row w5 G 1 _ _ _ hb
  have k2 := cell_of_row w5 G2 0 _ _ _ hb2
  have k3 := cell_of_row w5 G2 1 _ _ _ hb2
  simp at k0 k1 k2 k3
  have hne2 : G ≠ G2 := fun e => hne e.symm
  have h56 : w5.grownBy ((w5.setCell ⟨G, 0, none⟩ (.bool g)).setCell ⟨G, 1, none⟩ (.slice p n c)) (some G) := grown_trans (grown_setCell _ _ _) (grown_setCell _ ⟨G, 1, none⟩ _)
  have hb3 := (h56.block G2 (lt_of_block hb2) (by simpa using hne)).trans hb2
  have h67 : ((w5.setCell ⟨G, 0, none⟩ (.bool g)).setCell ⟨G, 1, none⟩ (.slice p n c)).grownBy ((((w5.setCell ⟨G, 0, none⟩ (.bool g)).setCell ⟨G, 1, none⟩ (.slice p n c)).setCell ⟨G2, 0, none⟩ (.bool h)).setCell ⟨G2, 1, none⟩ (.slice q m d)) (some G2) := grown_trans (grown_setCell _ _ _) (grown_setCell _ ⟨G2, 1, none⟩ _)
  refine ⟨_, rfl, (h5.other hb h56).other hb3 h67, (h6.other hb h56).other hb3 h67, grown_new (grown_new hg h56 (fun g e => by cases e; exact hG)) h67 (fun g e => by cases e; exact hG2), ?_, ?_, ?_, ?_⟩
  all_goals simp [go_sem, *]

theorem rofat (x : Int) (N : Nat) (hx : x = (N : Int)) (hb : N < W64) (w : World) :
    Calls Tryd.prog 16 #[.int .u64 x] w fun e w' => ∃ p' n' c', e = .returned (.slice p' n' c') ∧ IsC w' p' n' c' N ∧ n' ≤ 4 ∧ w.grownBy w' none := by
  subst hx
  exact (refOf_any N hb w).mono fun e w' ⟨a, c, h1, h2, h3⟩ => ⟨a, _, c, h1, h2, dg_len4 hb, h3⟩

set_option maxHeartbeats 2000000 in
theorem rOfNeg {z : Int} {N : Nat} (hz : z = -(N : Int) - 1) (hb : N < 9223372036854775808) (w : World) :
    Calls Tryd.prog 20 #[.int .i64 z] w (IPost w z 9) := by
  have hneg : z < 0 := by omega
  have hg1 := World.grownBy_alloc w (.cells #[.bool false, .slice none 0 0] 44) none
  have hz1 : -9223372036854775808 ≤ z := by omega
  have HZ : Hid (-(z + 1) = (N : Int)) := hid (by omega)
  have HN := hid (show N < W64 from Nat.lt_trans hb (by decide))
  have HE := hid (show sg true (N + 1) = z by simp [sg]; omega)
  clear hz hb
  go_enter Tryd.func20, Tryd.ntmps20
  go_wp2_with fail
  refine (rofat _ N HZ.out HN.out _).mono ?_
  rintro e w2 ⟨p2, n2, c2, rfl, h2, hn2, hg⟩
  have hW := grown_trans hg1 hg
  have hgB := hg
  clear hg
  go_wp2_with fail
  refine (rofat _ 1 rfl (by decide) _).mono ?_
  rintro e w3 ⟨p3, n3, c3, rfl, h3, hn3, hg⟩
  replace h2 := h2.keep hg; replace hgB := grown_trans hgB hg; clear hg
  go_wp2_with fail
  refine (refAdd_n h2.isN h3.isN (by omega) (by omega)).mono ?_
  rintro e w4 ⟨p4, n4, c4, rfl, h4, hn4, hg⟩
  replace hgB := grown_trans hgB hg; clear hg
  go_wp2_with fail
  refine (rOf_any true h4.isN (by omega)).mono ?_
  rintro e w5 ⟨g5, p5, n5, c5, rfl, h5, hn5, hg⟩
  replace hgB := grown_trans hgB hg; clear hg
  have hc4 := gcell hgB
  have hf4 := gfree hgB
  have hz4 := hgB.size
  simp at hz4
  rw [HE.out] at h5
  go_wp2_with fail
  exact bodyPost_ret (v := .agg #[.bool g5, .slice p5 n5 c5]) (by simp [results, Tryd.results20, go_sem, hc4]) rfl (IPost.close hg1 (heap_alloc_new w _) (Nat.le_refl _) hgB h5 (by omega))

set_option maxHeartbeats 2000000 in
theorem rOfPos {z : Int} {N : Nat} (hz : z = (N : Int)) (hb : N < 9223372036854775808) (w : World) :
    Calls Tryd.prog 20 #[.int .i64 z] w (IPost w z 9) := by
  have hneg : ¬ z < 0 := by omega
  have hz1 : z ≤ 9223372036854775807 := by omega
  have hg1 := World.grownBy_alloc w (.cells #[.bool false, .slice none 0 0] 44) none
  have HZ := hid hz
  have HN := hid (show N < W64 from Nat.lt_trans hb (by decide))
  have HE := hid (show sg false N = z by simp [sg]; omega)
  clear hz hb
  go_enter Tryd.func20, Tryd.ntmps20
  go_wp2_with fail
  refine (rofat _ N (by first | exact HZ.out | (rw [IntKind.wrap_u64]; have := HZ.out; omega)) HN.out _).mono ?_
  rintro e w2 ⟨p2, n2, c2, rfl, h2, hn2, hg⟩
  have hgB := hg
  clear hg
  go_wp2_with fail
  refine (rOf_any false h2.isN (by omega)).mono ?_
  rintro e w5 ⟨g5, p5, n5, c5, rfl, h5, hn5, hg⟩
  replace hgB := grown_trans hgB hg; clear hg
  have hc4 := gcell hgB
  have hf4 := gfree hgB
  have hz4 := hgB.size
  simp at hz4
  rw [HE.out] at h5
  go_wp2_with fail
  exact bodyPost_ret (v := .agg #[.bool g5, .slice p5 n5 c5]) (by simp [results, Tryd.results20, go_sem, hc4]) rfl (IPost.close hg1 (heap_alloc_new w _) (Nat.le_refl _) hgB h5 (by omega))

theorem rOfI (z : Int) (w : World) (h1 : -9223372036854775808 ≤ z) (h2 : z ≤ 9223372036854775807) : Calls Tryd.prog 20 #[.int .i64 z] w (IPost w z 9) := by
  by_cases h : z < 0
  · exact (rOfNeg (N := (-(z + 1)).toNat) (by omega) (by omega) w).mono fun e w' ⟨g, p, n, c, h1, h2, h3, h4⟩ => ⟨g, p, n, c, h1, h2, h3, h4⟩
  · exact rOfPos (N := z.toNat) (by omega) (by omega) w
end Go.Proofs.YtdnafpdaoancbaaDoor
