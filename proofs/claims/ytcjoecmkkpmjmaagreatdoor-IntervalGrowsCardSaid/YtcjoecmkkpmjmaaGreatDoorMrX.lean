/-
  IvV IvX IvW, in one text.
-/
import Derived.Test.YtcjoecmkkpmjmaaGreatDoorMrK

set_option linter.unusedVariables false
set_option linter.unusedSimpArgs false
namespace Go.Proofs.YtcjoecmkkpmjmaaGreatDoor
open Go.RowKit Nm
open Go

theorem minR_le (l : List Rat) : ∀ (x y : Rat), y ∈ x :: l → minR x l ≤ y := by
  induction l with
  | nil => intro x y h; simp at h; subst h; exact Rat.le_refl
  | cons z l ih =>
    intro x y h
    show minR (if z < x then z else x) l ≤ y
    rcases List.mem_cons.1 h with rfl | h
    · refine Rat.le_trans (ih _ _ (List.mem_cons_self ..)) ?_
      split <;> grind
    · rcases List.mem_cons.1 h with rfl | h
      · refine Rat.le_trans (ih _ _ (List.mem_cons_self ..)) ?_
        split <;> grind
      · exact ih _ _ (List.mem_cons_of_mem _ h)
theorem minR_mem (l : List Rat) : ∀ (x : Rat), minR x l ∈ x :: l := by
  induction l with
  | nil => intro x; exact List.mem_cons_self ..
  | cons z l ih =>
    intro x
    show minR (if z < x then z else x) l ∈ x :: z :: l
    rcases List.mem_cons.1 (ih (if z < x then z else x)) with h | h
    · rw [h]
      split
      · exact List.mem_cons_of_mem _ (List.mem_cons_self ..)
      · exact List.mem_cons_self ..
    · exact List.mem_cons_of_mem _ (List.mem_cons_of_mem _ h)
theorem le_maxR (l : List Rat) : ∀ (x y : Rat), y ∈ x :: l → y ≤ maxR x l := by
  induction l with
  | nil => intro x y h; simp at h; subst h; exact Rat.le_refl
  | cons z l ih =>
    intro x y h
    show y ≤ maxR (if x < z then z else x) l
    rcases List.mem_cons.1 h with rfl | h
    · refine Rat.le_trans ?_ (ih _ _ (List.mem_cons_self ..))
      split <;> grind
    · rcases List.mem_cons.1 h with rfl | h
      · refine Rat.le_trans ?_ (ih _ _ (List.mem_cons_self ..))
        split <;> grind
      · exact ih _ _ (List.mem_cons_of_mem _ h)
theorem maxR_mem (l : List Rat) : ∀ (x : Rat), maxR x l ∈ x :: l := by
  induction l with
  | nil => intro x; exact List.mem_cons_self ..
  | cons z l ih =>
    intro x
    show maxR (if x < z then z else x) l ∈ x :: z :: l
    rcases List.mem_cons.1 (ih (if x < z then z else x)) with h | h
    · rw [h]
      split
      · exact List.mem_cons_of_mem _ (List.mem_cons_self ..)
      · exact List.mem_cons_self ..
    · exact List.mem_cons_of_mem _ (List.mem_cons_of_mem _ h)
theorem minR_same {x x' : Rat} {l l' : List Rat} (h : ∀ y, y ∈ x :: l ↔ y ∈ x' :: l') : minR x l = minR x' l' :=
  Rat.le_antisymm (minR_le _ _ _ ((h _).2 (minR_mem _ _))) (minR_le _ _ _ ((h _).1 (minR_mem _ _)))
theorem maxR_same {x x' : Rat} {l l' : List Rat} (h : ∀ y, y ∈ x :: l ↔ y ∈ x' :: l') : maxR x l = maxR x' l' :=
  Rat.le_antisymm (le_maxR _ _ _ ((h _).1 (maxR_mem _ _))) (le_maxR _ _ _ ((h _).2 (maxR_mem _ _)))
theorem swap4 (A B X Y y : Rat) : y ∈ A :: [X, B, Y] ↔ y ∈ A :: [B, X, Y] := by
  simp only [List.mem_cons, List.not_mem_nil, or_false]
  constructor
  · rintro (h | h | h | h)
    · exact Or.inl h
    · exact Or.inr (Or.inr (Or.inl h))
    · exact Or.inr (Or.inl h)
    · exact Or.inr (Or.inr (Or.inr h))
  · rintro (h | h | h | h)
    · exact Or.inl h
    · exact Or.inr (Or.inr (Or.inl h))
    · exact Or.inr (Or.inl h)
    · exact Or.inr (Or.inr (Or.inr h))

set_option maxRecDepth 20000 in
set_option maxHeartbeats 4000000 in
theorem ivHull_w (S : Nat) {w : World} {g1 g2 g3 g4 : Bool} {p1 q1 p2 q2 p3 q3 p4 q4 : Option Addr} {n1 c1 m1 d1 n2 c2 m2 d2 n3 c3 m3 d3 n4 c4 m4 d4 : Nat} {A B X Y : Rat} (hA : IsV w g1 p1 n1 c1 q1 m1 d1 A) (hB : IsV w g2 p2 n2 c2 q2 m2 d2 B) (hX : IsV w g3 p3 n3 c3 q3 m3 d3 X) (hY : IsV w g4 p4 n4 c4 q4 m4 d4 Y) (hn1 : n1 ≤ S) (hm1 : m1 ≤ S) (hn2 : n2 ≤ S) (hm2 : m2 ≤ S) (hn3 : n3 ≤ S) (hm3 : m3 ≤ S) (hn4 : n4 ≤ S) (hm4 : m4 ≤ S) (hS : S ≤ 1000) :
    Calls Tryz.prog 25 #[.agg #[.bool g1, .slice p1 n1 c1, .slice q1 m1 d1, .bool g2, .slice p2 n2 c2, .slice q2 m2 d2], .agg #[.bool g3, .slice p3 n3 c3, .slice q3 m3 d3, .bool g4, .slice p4 n4 c4, .slice q4 m4 d4]] w (WPost w (minR A [X, B, Y]) (maxR A [X, B, Y]) S) := by
  have hW := (grown_trans (grown_trans (World.grownBy_alloc w (.cells #[.bool g1, .slice p1 n1 c1, .slice q1 m1 d1, .bool g2, .slice p2 n2 c2, .slice q2 m2 d2] 29) none) (World.grownBy_alloc _ (.cells #[.bool g3, .slice p3 n3 c3, .slice q3 m3 d3, .bool g4, .slice p4 n4 c4, .slice q4 m4 d4] 29) none)) (World.grownBy_alloc _ (.cells #[.bool false, .slice none 0 0, .slice none 0 0, .bool false, .slice none 0 0, .slice none 0 0] 29) none))
  have bx0 : (((w.alloc (.cells #[.bool g1, .slice p1 n1 c1, .slice q1 m1 d1, .bool g2, .slice p2 n2 c2, .slice q2 m2 d2] 29)).alloc (.cells #[.bool g3, .slice p3 n3 c3, .slice q3 m3 d3, .bool g4, .slice p4 n4 c4, .slice q4 m4 d4] 29)).alloc (.cells #[.bool false, .slice none 0 0, .slice none 0 0, .bool false, .slice none 0 0, .slice none 0 0] 29)).heap[w.heap.size]? = some (.cells #[.bool g1, .slice p1 n1 c1, .slice q1 m1 d1, .bool g2, .slice p2 n2 c2, .slice q2 m2 d2] 29 (0, 0)) := by
    have h0 := heap_alloc_new w (.cells #[.bool g1, .slice p1 n1 c1, .slice q1 m1 d1, .bool g2, .slice p2 n2 c2, .slice q2 m2 d2] 29)
    have h1 := (grown_trans (World.grownBy_alloc (w.alloc (.cells #[.bool g1, .slice p1 n1 c1, .slice q1 m1 d1, .bool g2, .slice p2 n2 c2, .slice q2 m2 d2] 29)) (.cells #[.bool g3, .slice p3 n3 c3, .slice q3 m3 d3, .bool g4, .slice p4 n4 c4, .slice q4 m4 d4] 29) none) (World.grownBy_alloc _ (.cells #[.bool false, .slice none 0 0, .slice none 0 0, .bool false, .slice none 0 0, .slice none 0 0] 29) none)).block _ (lt_of_block h0) (by simp)
    have h2 := h1.trans h0
    simpa using h2
  have bx1 : (((w.alloc (.cells #[.bool g1, .slice p1 n1 c1, .slice q1 m1 d1, .bool g2, .slice p2 n2 c2, .slice q2 m2 d2] 29)).alloc (.cells #[.bool g3, .slice p3 n3 c3, .slice q3 m3 d3, .bool g4, .slice p4 n4 c4, .slice q4 m4 d4] 29)).alloc (.cells #[.bool false, .slice none 0 0, .slice none 0 0, .bool false, .slice none 0 0, .slice none 0 0] 29)).heap[w.heap.size + 1]? = some (.cells #[.bool g3, .slice p3 n3 c3, .slice q3 m3 d3, .bool g4, .slice p4 n4 c4, .slice q4 m4 d4] 29 (0, 0)) := by
    have h0 := heap_alloc_new (w.alloc (.cells #[.bool g1, .slice p1 n1 c1, .slice q1 m1 d1, .bool g2, .slice p2 n2 c2, .slice q2 m2 d2] 29)) (.cells #[.bool g3, .slice p3 n3 c3, .slice q3 m3 d3, .bool g4, .slice p4 n4 c4, .slice q4 m4 d4] 29)
    have h1 := (World.grownBy_alloc ((w.alloc (.cells #[.bool g1, .slice p1 n1 c1, .slice q1 m1 d1, .bool g2, .slice p2 n2 c2, .slice q2 m2 d2] 29)).alloc (.cells #[.bool g3, .slice p3 n3 c3, .slice q3 m3 d3, .bool g4, .slice p4 n4 c4, .slice q4 m4 d4] 29)) (.cells #[.bool false, .slice none 0 0, .slice none 0 0, .bool false, .slice none 0 0, .slice none 0 0] 29) none).block _ (lt_of_block h0) (by simp)
    have h2 := h1.trans h0
    simpa using h2
  have bx2 : (((w.alloc (.cells #[.bool g1, .slice p1 n1 c1, .slice q1 m1 d1, .bool g2, .slice p2 n2 c2, .slice q2 m2 d2] 29)).alloc (.cells #[.bool g3, .slice p3 n3 c3, .slice q3 m3 d3, .bool g4, .slice p4 n4 c4, .slice q4 m4 d4] 29)).alloc (.cells #[.bool false, .slice none 0 0, .slice none 0 0, .bool false, .slice none 0 0, .slice none 0 0] 29)).heap[w.heap.size + 1 + 1]? = some (.cells #[.bool false, .slice none 0 0, .slice none 0 0, .bool false, .slice none 0 0, .slice none 0 0] 29 (0, 0)) := by
    have := heap_alloc_new ((w.alloc (.cells #[.bool g1, .slice p1 n1 c1, .slice q1 m1 d1, .bool g2, .slice p2 n2 c2, .slice q2 m2 d2] 29)).alloc (.cells #[.bool g3, .slice p3 n3 c3, .slice q3 m3 d3, .bool g4, .slice p4 n4 c4, .slice q4 m4 d4] 29)) (.cells #[.bool false, .slice none 0 0, .slice none 0 0, .bool false, .slice none 0 0, .slice none 0 0] 29)
    simpa using this
  replace hA := hA.keep hW; replace hB := hB.keep hW; replace hX := hX.keep hW; replace hY := hY.keep hW
  obtain ⟨⟨x0, x1, x2, x3, x4, x5⟩, _⟩ := ivbox_facts bx0
  obtain ⟨⟨y0, y1, y2, y3, y4, y5⟩, _⟩ := ivbox_facts bx1
  clear bx0 bx1
  go_enter Tryz.func25, Tryz.ntmps25
  go_upto_region 1 with fail
  generalize (((w.alloc (.cells #[.bool g1, .slice p1 n1 c1, .slice q1 m1 d1, .bool g2, .slice p2 n2 c2, .slice q2 m2 d2] 29)).alloc (.cells #[.bool g3, .slice p3 n3 c3, .slice q3 m3 d3, .bool g4, .slice p4 n4 c4, .slice q4 m4 d4] 29)).alloc (.cells #[.bool false, .slice none 0 0, .slice none 0 0, .bool false, .slice none 0 0, .slice none 0 0] 29)) = w0 at *
  have hg := World.grownBy_alloc w0 (.cells #[.bool g3, .slice p3 n3 c3, .slice q3 m3 d3, .bool g2, .slice p2 n2 c2, .slice q2 m2 d2, .bool g4, .slice p4 n4 c4, .slice q4 m4 d4] 27) none
  have ba := heap_alloc_new w0 (.cells #[.bool g3, .slice p3 n3 c3, .slice q3 m3 d3, .bool g2, .slice p2 n2 c2, .slice q2 m2 d2, .bool g4, .slice p4 n4 c4, .slice q4 m4 d4] 27)
  replace hA := hA.keep hg; replace hB := hB.keep hg; replace hX := hX.keep hg; replace hY := hY.keep hg
  replace bx2 := (hg.block _ (lt_of_block bx2) (by simp)).trans bx2; replace hW := grown_trans hW hg
  clear hg
  have hl : RVs (w0.alloc (.cells #[.bool g3, .slice p3 n3 c3, .slice q3 m3 d3, .bool g2, .slice p2 n2 c2, .slice q2 m2 d2, .bool g4, .slice p4 n4 c4, .slice q4 m4 d4] 27)) w0.heap.size [⟨g3, p3, n3, c3, q3, m3, d3, X⟩, ⟨g2, p2, n2, c2, q2, m2, d2, B⟩, ⟨g4, p4, n4, c4, q4, m4, d4, Y⟩] := rvs3 ba hX hB hY
  have hGa := lt_of_block ba
  have HSZ := hid (show ∀ r ∈ ([⟨g3, p3, n3, c3, q3, m3, d3, X⟩, ⟨g2, p2, n2, c2, q2, m2, d2, B⟩, ⟨g4, p4, n4, c4, q4, m4, d4, Y⟩] : List RV), r.n ≤ S ∧ r.m ≤ S from three_sz ⟨hn3, hm3⟩ ⟨hn2, hm2⟩ ⟨hn4, hm4⟩)
  clear ba
  go_wp2_with fail
  refine (hull_v S [⟨g3, p3, n3, c3, q3, m3, d3, X⟩, ⟨g2, p2, n2, c2, q2, m2, d2, B⟩, ⟨g4, p4, n4, c4, q4, m4, d4, Y⟩] 3 rfl hA hl hGa HSZ.out hn1 hm1 (by omega) (by omega)).mono ?_
  rintro ee v9 ⟨g9, g10, p9, q9, p10, q10, n9, c9, m9, d9, n10, c10, m10, d10, rfl, hR, hS2, b1, b2, hg⟩
  replace bx2 := (hg.block _ (lt_of_block bx2) (by simp)).trans bx2; replace hW := grown_trans hW hg
  clear hg
  have ff := ivbox_facts bx2; obtain ⟨⟨l0, l1, l2, l3, l4, l5⟩, f0, f1, f2, f3, f4, f5⟩ := ff
  go_wp2_with fail
  exact bodyPost_ret (v := .agg #[.bool g9, .slice p9 n9 c9, .slice q9 m9 d9, .bool g10, .slice p10 n10 c10, .slice q10 m10 d10]) (by simp [results, Tryz.results25, go_sem, l0, l1, l2, l3, l4, l5, f0, f1, f2, f3, f4, f5]) rfl
    (WPost.close bx2 (by omega) hW hR hS2 b1 b2)

theorem ivHull_v (S : Nat) {w : World} {g1 g2 g3 g4 : Bool} {p1 q1 p2 q2 p3 q3 p4 q4 : Option Addr} {n1 c1 m1 d1 n2 c2 m2 d2 n3 c3 m3 d3 n4 c4 m4 d4 : Nat} {A B X Y : Rat} (hA : IsV w g1 p1 n1 c1 q1 m1 d1 A) (hB : IsV w g2 p2 n2 c2 q2 m2 d2 B) (hX : IsV w g3 p3 n3 c3 q3 m3 d3 X) (hY : IsV w g4 p4 n4 c4 q4 m4 d4 Y) (hn1 : n1 ≤ S) (hm1 : m1 ≤ S) (hn2 : n2 ≤ S) (hm2 : m2 ≤ S) (hn3 : n3 ≤ S) (hm3 : m3 ≤ S) (hn4 : n4 ≤ S) (hm4 : m4 ≤ S) (hS : S ≤ 1000) :
    Calls Tryz.prog 25 #[.agg #[.bool g1, .slice p1 n1 c1, .slice q1 m1 d1, .bool g2, .slice p2 n2 c2, .slice q2 m2 d2], .agg #[.bool g3, .slice p3 n3 c3, .slice q3 m3 d3, .bool g4, .slice p4 n4 c4, .slice q4 m4 d4]] w (WPost w (minR A [B, X, Y]) (maxR A [B, X, Y]) S) := by
  have := ivHull_w S hA hB hX hY hn1 hm1 hn2 hm2 hn3 hm3 hn4 hm4 hS
  rw [minR_same (swap4 A B X Y), maxR_same (swap4 A B X Y)] at this
  exact this





end Go.Proofs.YtcjoecmkkpmjmaaGreatDoor

set_option linter.unusedVariables false
set_option linter.unusedSimpArgs false
namespace Go.Proofs.YtcjoecmkkpmjmaaGreatDoor
open Go.RowKit Nm

theorem inI_of {lo hi x : Rat} (h1 : lo ≤ x) (h2 : x ≤ hi) : inI lo hi x = true := decide_eq_true ⟨h1, h2⟩
theorem minR_le_of {x y z : Rat} {l : List Rat} (h : y ∈ x :: l) (hz : y ≤ z) : minR x l ≤ z := Rat.le_trans (minR_le l x y h) hz
theorem le_maxR_of {x y z : Rat} {l : List Rat} (h : y ∈ x :: l) (hz : z ≤ y) : z ≤ maxR x l := Rat.le_trans hz (le_maxR l x y h)
theorem le_minR {x z : Rat} {l : List Rat} (h : ∀ y ∈ x :: l, z ≤ y) : z ≤ minR x l := h _ (minR_mem l x)
theorem maxR_le {x z : Rat} {l : List Rat} (h : ∀ y ∈ x :: l, y ≤ z) : maxR x l ≤ z := h _ (maxR_mem l x)
theorem mul_le_r {a b c : Rat} (h : a ≤ b) (hc : 0 ≤ c) : a * c ≤ b * c := by
  have := Rat.mul_nonneg (show 0 ≤ b - a by grind) hc
  grind
theorem mul_le_n {a b c : Rat} (h : a ≤ b) (hc : c ≤ 0) : b * c ≤ a * c := by
  have := Rat.mul_nonneg (show 0 ≤ b - a by grind) (show 0 ≤ -c by grind)
  grind
/-- a product with a number of an interval lies between those with its ends -/
theorem prod_lo {L H x c : Rat} (h1 : L ≤ x) (h2 : x ≤ H) : L * c ≤ x * c ∨ H * c ≤ x * c := by
  by_cases hc : 0 ≤ c
  · exact Or.inl (mul_le_r h1 hc)
  · exact Or.inr (mul_le_n h2 (by grind))
theorem prod_hi {L H x c : Rat} (h1 : L ≤ x) (h2 : x ≤ H) : x * c ≤ L * c ∨ x * c ≤ H * c := by
  by_cases hc : 0 ≤ c
  · exact Or.inr (mul_le_r h2 hc)
  · exact Or.inl (mul_le_n h1 (by grind))
theorem prods_lo {L H C D x c : Rat} (h1 : L ≤ x) (h2 : x ≤ H) (hc : c = C ∨ c = D) : minR (L * C) [L * D, H * C, H * D] ≤ x * c := by
  rcases hc with rfl | rfl <;> rcases prod_lo (c := c) h1 h2 with h | h <;> exact minR_le_of (by simp) h
theorem prods_hi {L H C D x c : Rat} (h1 : L ≤ x) (h2 : x ≤ H) (hc : c = C ∨ c = D) : x * c ≤ maxR (L * C) [L * D, H * C, H * D] := by
  rcases hc with rfl | rfl <;> rcases prod_hi (c := c) h1 h2 with h | h <;> exact le_maxR_of (by simp) h
theorem mul_grows {A B L H C D : Rat} (hA1 : L ≤ A) (hA2 : A ≤ H) (hB1 : L ≤ B) (hB2 : B ≤ H) :
    minR (L * C) [L * D, H * C, H * D] ≤ minR (A * C) [A * D, B * C, B * D] ∧ maxR (A * C) [A * D, B * C, B * D] ≤ maxR (L * C) [L * D, H * C, H * D] := by
  constructor
  · refine le_minR fun y hy => ?_
    simp only [List.mem_cons, List.not_mem_nil, or_false] at hy
    rcases hy with rfl | rfl | rfl | rfl
    · exact prods_lo hA1 hA2 (Or.inl rfl)
    · exact prods_lo hA1 hA2 (Or.inr rfl)
    · exact prods_lo hB1 hB2 (Or.inl rfl)
    · exact prods_lo hB1 hB2 (Or.inr rfl)
  · refine maxR_le fun y hy => ?_
    simp only [List.mem_cons, List.not_mem_nil, or_false] at hy
    rcases hy with rfl | rfl | rfl | rfl
    · exact prods_hi hA1 hA2 (Or.inl rfl)
    · exact prods_hi hA1 hA2 (Or.inr rfl)
    · exact prods_hi hB1 hB2 (Or.inl rfl)
    · exact prods_hi hB1 hB2 (Or.inr rfl)
theorem sqr_le {a b : Rat} (ha : 0 ≤ a) (h : a ≤ b) : a * a ≤ b * b := by
  have h1 := mul_le_r h ha
  have h2 := mul_le_r h (show 0 ≤ b by grind)
  grind
theorem sqr_le_n {a b : Rat} (hb : b ≤ 0) (h : a ≤ b) : b * b ≤ a * a := by
  have h1 := mul_le_n h hb
  have h2 := mul_le_n h (show a ≤ 0 by grind)
  grind
theorem sqr_hi {L H x : Rat} (h1 : L ≤ x) (h2 : x ≤ H) : x * x ≤ sqHi L H := by
  by_cases h : 0 ≤ x
  · exact le_maxR_of (y := H * H) (by simp) (sqr_le h h2)
  · exact le_maxR_of (y := L * L) (by simp) (sqr_le_n (by grind) h1)
theorem sqr_lo {L H x : Rat} (h1 : L ≤ x) (h2 : x ≤ H) : sqLo L H ≤ x * x := by
  unfold sqLo
  by_cases k : inI L H ((0 : Int) : Rat) = true
  · rw [if_pos k]
    exact sqr_nonneg x
  · rw [if_neg k]
    have hn : ¬ (L ≤ 0 ∧ 0 ≤ H) := fun h => k (inI_zero.2 h)
    by_cases hL : 0 < L
    · exact minR_le_of (y := L * L) (by simp) (sqr_le (by grind) h1)
    · have hH : H < 0 := by
        by_cases hH : H < 0
        · exact hH
        · exact absurd ⟨by grind, by grind⟩ hn
      exact minR_le_of (y := H * H) (by simp) (sqr_le_n (by grind) h2)
theorem sqLo_cases (A B : Rat) : (sqLo A B = ((0 : Int) : Rat) ∧ A ≤ 0 ∧ 0 ≤ B) ∨ sqLo A B = A * A ∨ sqLo A B = B * B := by
  by_cases k : inI A B ((0 : Int) : Rat) = true
  · exact Or.inl ⟨if_pos k, inI_zero.1 k⟩
  · have e : sqLo A B = minR (A * A) [B * B] := if_neg k
    rw [e]
    have := minR_mem [B * B] (A * A)
    simp only [List.mem_cons, List.not_mem_nil, or_false] at this
    exact Or.inr this
theorem sqHi_cases (A B : Rat) : sqHi A B = A * A ∨ sqHi A B = B * B := by
  have := maxR_mem [B * B] (A * A)
  simp only [List.mem_cons, List.not_mem_nil, or_false] at this
  exact this
theorem sq_grows {A B L H : Rat} (hA1 : L ≤ A) (hA2 : A ≤ H) (hB1 : L ≤ B) (hB2 : B ≤ H) : sqLo L H ≤ sqLo A B ∧ sqHi A B ≤ sqHi L H := by
  constructor
  · rcases sqLo_cases A B with ⟨e, h1, h2⟩ | e | e
    · have k : inI L H ((0 : Int) : Rat) = true := inI_zero.2 ⟨by grind, by grind⟩
      rw [e, show sqLo L H = ((0 : Int) : Rat) from if_pos k]
      exact Rat.le_refl
    · rw [e]; exact sqr_lo hA1 hA2
    · rw [e]; exact sqr_lo hB1 hB2
  · rcases sqHi_cases A B with e | e
    · rw [e]; exact sqr_hi hA1 hA2
    · rw [e]; exact sqr_hi hB1 hB2
theorem sq_in_mul (A B : Rat) : minR (A * A) [A * B, B * A, B * B] ≤ sqLo A B ∧ sqHi A B ≤ maxR (A * A) [A * B, B * A, B * B] := by
  constructor
  · rcases sqLo_cases A B with ⟨e, h1, h2⟩ | e | e
    · rw [e, z0]
      refine minR_le_of (y := A * B) (by simp) ?_
      have := mul_le_r h1 h2
      grind
    · rw [e]; exact minR_le_of (y := A * A) (by simp) Rat.le_refl
    · rw [e]; exact minR_le_of (y := B * B) (by simp) Rat.le_refl
  · rcases sqHi_cases A B with e | e
    · rw [e]; exact le_maxR_of (y := A * A) (by simp) Rat.le_refl
    · rw [e]; exact le_maxR_of (y := B * B) (by simp) Rat.le_refl

/-- the ends that Round gives -/
def rdLo (A : Rat) (b : Nat) : Rat := (((A * ((2 ^ b : Nat) : Rat)).floor : Int) : Rat) / (((2 ^ b : Nat) : Int) : Rat)
def rdHi (B : Rat) (b : Nat) : Rat := (((-(-B * ((2 ^ b : Nat) : Rat)).floor : Int)) : Rat) / (((2 ^ b : Nat) : Int) : Rat)
theorem unit_pos (b : Nat) : (0 : Rat) < (((2 ^ b : Nat) : Int) : Rat) := by
  have : (0 : Int) < ((2 ^ b : Nat) : Int) := by
    have := Nat.pow_pos (n := b) (show 0 < 2 by omega)
    omega
  exact_mod_cast this
theorem unit_cast (b : Nat) : ((2 ^ b : Nat) : Rat) = (((2 ^ b : Nat) : Int) : Rat) := (Rat.intCast_natCast _).symm
theorem div_le_of {x y u : Rat} (hu : 0 < u) (h : x ≤ y * u) : x / u ≤ y := by
  have e : x / u * u = x := by grind
  by_cases k : x / u ≤ y
  · exact k
  · have := Rat.mul_lt_mul_of_pos_right (show y < x / u by grind) hu
    grind
theorem le_div_of {x y u : Rat} (hu : 0 < u) (h : y * u ≤ x) : y ≤ x / u := by
  have e : x / u * u = x := by grind
  by_cases k : y ≤ x / u
  · exact k
  · have := Rat.mul_lt_mul_of_pos_right (show x / u < y by grind) hu
    grind
theorem rdLo_le (A : Rat) (b : Nat) : rdLo A b ≤ A := by
  unfold rdLo
  refine div_le_of (unit_pos b) ?_
  rw [← unit_cast]
  exact Rat.floor_le ..
theorem le_rdHi (B : Rat) (b : Nat) : B ≤ rdHi B b := by
  unfold rdHi
  refine le_div_of (unit_pos b) ?_
  rw [← unit_cast]
  have := Rat.floor_le (-B * ((2 ^ b : Nat) : Rat))
  rw [Rat.intCast_neg]
  grind
theorem rdLo_mono {A B : Rat} (h : A ≤ B) (b : Nat) : rdLo A b ≤ rdLo B b := by
  unfold rdLo
  have hu := unit_pos b
  refine div_le_of hu ?_
  have e : (((B * ((2 ^ b : Nat) : Rat)).floor : Int) : Rat) / (((2 ^ b : Nat) : Int) : Rat) * (((2 ^ b : Nat) : Int) : Rat) = (((B * ((2 ^ b : Nat) : Rat)).floor : Int) : Rat) := by grind
  rw [e]
  have : (A * ((2 ^ b : Nat) : Rat)).floor ≤ (B * ((2 ^ b : Nat) : Rat)).floor := Rat.floor_monotone (mul_le_r h (by rw [unit_cast]; grind))
  exact_mod_cast this
theorem rdHi_mono {A B : Rat} (h : A ≤ B) (b : Nat) : rdHi A b ≤ rdHi B b := by
  unfold rdHi
  have hu := unit_pos b
  refine div_le_of hu ?_
  have e : ((-(-B * ((2 ^ b : Nat) : Rat)).floor : Int) : Rat) / (((2 ^ b : Nat) : Int) : Rat) * (((2 ^ b : Nat) : Int) : Rat) = ((-(-B * ((2 ^ b : Nat) : Rat)).floor : Int) : Rat) := by grind
  rw [e]
  have : (-B * ((2 ^ b : Nat) : Rat)).floor ≤ (-A * ((2 ^ b : Nat) : Rat)).floor := Rat.floor_monotone (mul_le_r (by grind) (by rw [unit_cast]; grind))
  have k : -(-A * ((2 ^ b : Nat) : Rat)).floor ≤ -(-B * ((2 ^ b : Nat) : Rat)).floor := by omega
  exact_mod_cast k
theorem rdLo_rdLo (A : Rat) (b : Nat) : rdLo (rdLo A b) b = rdLo A b := by
  have hu := unit_pos b
  have e : rdLo A b * ((2 ^ b : Nat) : Rat) = (((A * ((2 ^ b : Nat) : Rat)).floor : Int) : Rat) := by
    unfold rdLo
    rw [unit_cast]
    grind
  show (((rdLo A b * ((2 ^ b : Nat) : Rat)).floor : Int) : Rat) / _ = _
  rw [e, Rat.floor_intCast]
  rfl
theorem rdHi_rdHi (A : Rat) (b : Nat) : rdHi (rdHi A b) b = rdHi A b := by
  have hu := unit_pos b
  have e : -(rdHi A b) * ((2 ^ b : Nat) : Rat) = (((-A * ((2 ^ b : Nat) : Rat)).floor : Int) : Rat) := by
    unfold rdHi
    rw [unit_cast, Rat.intCast_neg]
    grind
  show ((-(-(rdHi A b) * ((2 ^ b : Nat) : Rat)).floor : Int) : Rat) / _ = _
  rw [e, Rat.floor_intCast]
  rfl
end Go.Proofs.YtcjoecmkkpmjmaaGreatDoor

set_option linter.unusedVariables false
set_option linter.unusedSimpArgs false
namespace Go.Proofs.YtcjoecmkkpmjmaaGreatDoor
open Go.RowKit Nm
open Go


set_option maxRecDepth 20000 in
set_option maxHeartbeats 8000000 in
theorem ivRound_v (S : Nat) {w : World} (T : Tb w) {g1 g2 : Bool} {p1 q1 p2 q2 : Option Addr} {n1 c1 m1 d1 n2 c2 m2 d2 : Nat} {A B : Rat} (hA : IsV w g1 p1 n1 c1 q1 m1 d1 A) (hB : IsV w g2 p2 n2 c2 q2 m2 d2 B) (b : Nat) (hb : b ≤ 200) (hn1 : n1 ≤ S) (hm1 : m1 ≤ S) (hn2 : n2 ≤ S) (hm2 : m2 ≤ S) (hS : S ≤ 1000) :
    Calls Tryz.prog 8 #[.agg #[.bool g1, .slice p1 n1 c1, .slice q1 m1 d1, .bool g2, .slice p2 n2 c2, .slice q2 m2 d2], .int .i64 b] w (WTPost w (rdLo A b) (rdHi B b) (5 * S + 140)) := by
  have HT := hid T
  clear T
  have hW := (grown_trans (World.grownBy_alloc w (.cells #[.bool g1, .slice p1 n1 c1, .slice q1 m1 d1, .bool g2, .slice p2 n2 c2, .slice q2 m2 d2] 29) none) (World.grownBy_alloc _ (.cells #[.bool false, .slice none 0 0, .slice none 0 0, .bool false, .slice none 0 0, .slice none 0 0] 29) none))
  have bx0 : ((w.alloc (.cells #[.bool g1, .slice p1 n1 c1, .slice q1 m1 d1, .bool g2, .slice p2 n2 c2, .slice q2 m2 d2] 29)).alloc (.cells #[.bool false, .slice none 0 0, .slice none 0 0, .bool false, .slice none 0 0, .slice none 0 0] 29)).heap[w.heap.size]? = some (.cells #[.bool g1, .slice p1 n1 c1, .slice q1 m1 d1, .bool g2, .slice p2 n2 c2, .slice q2 m2 d2] 29 (0, 0)) := by
    have h0 := heap_alloc_new w (.cells #[.bool g1, .slice p1 n1 c1, .slice q1 m1 d1, .bool g2, .slice p2 n2 c2, .slice q2 m2 d2] 29)
    have h1 := (World.grownBy_alloc (w.alloc (.cells #[.bool g1, .slice p1 n1 c1, .slice q1 m1 d1, .bool g2, .slice p2 n2 c2, .slice q2 m2 d2] 29)) (.cells #[.bool false, .slice none 0 0, .slice none 0 0, .bool false, .slice none 0 0, .slice none 0 0] 29) none).block _ (lt_of_block h0) (by simp)
    have h2 := h1.trans h0
    simpa using h2
  have bx1 : ((w.alloc (.cells #[.bool g1, .slice p1 n1 c1, .slice q1 m1 d1, .bool g2, .slice p2 n2 c2, .slice q2 m2 d2] 29)).alloc (.cells #[.bool false, .slice none 0 0, .slice none 0 0, .bool false, .slice none 0 0, .slice none 0 0] 29)).heap[w.heap.size + 1]? = some (.cells #[.bool false, .slice none 0 0, .slice none 0 0, .bool false, .slice none 0 0, .slice none 0 0] 29 (0, 0)) := by
    have := heap_alloc_new (w.alloc (.cells #[.bool g1, .slice p1 n1 c1, .slice q1 m1 d1, .bool g2, .slice p2 n2 c2, .slice q2 m2 d2] 29)) (.cells #[.bool false, .slice none 0 0, .slice none 0 0, .bool false, .slice none 0 0, .slice none 0 0] 29)
    simpa using this
  replace hA := hA.keep hW; replace hB := hB.keep hW
  obtain ⟨⟨x0, x1, x2, x3, x4, x5⟩, _⟩ := ivbox_facts bx0
  clear bx0
  go_enter Tryz.func8, Tryz.ntmps8
  go_wp2_with fail
  generalize ((w.alloc (.cells #[.bool g1, .slice p1 n1 c1, .slice q1 m1 d1, .bool g2, .slice p2 n2 c2, .slice q2 m2 d2] 29)).alloc (.cells #[.bool false, .slice none 0 0, .slice none 0 0, .bool false, .slice none 0 0, .slice none 0 0] 29)) = w0 at *
  refine (isGrid_in (b : Int) (by omega) (by omega)).mono ?_
  rintro ee v1 ⟨rfl, rfl⟩
  go_wp2_with fail
  have hg := grown_drew w0 none
  replace hA := hA.keep hg; replace hB := hB.keep hg; replace x0 := hg.cell x0 (by simp); replace x1 := hg.cell x1 (by simp)
  replace x2 := hg.cell x2 (by simp); replace x3 := hg.cell x3 (by simp); replace x4 := hg.cell x4 (by simp); replace x5 := hg.cell x5 (by simp)
  replace bx1 := (hg.block _ (lt_of_block bx1) (by simp)).trans bx1; replace hW := grown_trans hW hg
  clear hg
  go_region_held3 (fun w' => w'.cell? ⟨w.heap.size, 0, none⟩ = some (.bool g1) ∧ w'.cell? ⟨w.heap.size, 1, none⟩ = some (.slice p1 n1 c1) ∧ w'.cell? ⟨w.heap.size, 2, none⟩ = some (.slice q1 m1 d1) ∧ w'.cell? ⟨w.heap.size, 3, none⟩ = some (.bool g2) ∧ w'.cell? ⟨w.heap.size, 4, none⟩ = some (.slice p2 n2 c2) ∧ w'.cell? ⟨w.heap.size, 5, none⟩ = some (.slice q2 m2 d2)) ((try go_split_ands) <;> (repeat' apply And.intro) <;> (repeat (first | (with_reducible assumption) | (with_reducible refine (grown_setCell _ _ _).cell ?_ (by first | (simp; omega) | simp)) | (with_reducible refine (World.grownBy_alloc _ _ none).cell ?_ (by simp)) | (with_reducible refine (grown_drew _ none).cell ?_ (by simp)))))
    (first
      | (go_at_call 36; (with_reducible refine (scaledFloor_z S hA b _ rfl (by omega) hn1 hm1 (by omega)).mono ?_); rintro ee v3 ⟨g3, p3, n3, c3, rfl, hF, hn3, hg⟩; replace hA := hA.keep hg; replace hB := hB.keep hg; replace x0 := hg.cell x0 (by simp); replace x1 := hg.cell x1 (by simp); replace x2 := hg.cell x2 (by simp); replace x3 := hg.cell x3 (by simp); replace x4 := hg.cell x4 (by simp); replace x5 := hg.cell x5 (by simp); replace bx1 := (hg.block _ (lt_of_block bx1) (by simp)).trans bx1; replace hW := grown_trans hW hg; clear hg)
      | (go_at_call 37; (with_reducible refine (scaledCeiling_z S (HT.out.keep hW) hB b _ rfl (by omega) hn2 hm2 (by omega)).mono ?_); rintro ee v4 ⟨g4, p4, n4, c4, rfl, hC, hn4, hg⟩; replace hA := hA.keep hg; replace hB := hB.keep hg; replace hF := hF.keep hg; replace x0 := hg.cell x0 (by simp); replace x1 := hg.cell x1 (by simp); replace x2 := hg.cell x2 (by simp); replace x3 := hg.cell x3 (by simp); replace x4 := hg.cell x4 (by simp); replace x5 := hg.cell x5 (by simp); replace bx1 := (hg.block _ (lt_of_block bx1) (by simp)).trans bx1; replace hW := grown_trans hW hg; clear hg)
      | (go_at_call 35; (with_reducible refine (onGrid_v (5 * S + 100) (HT.out.keep hW) hF.z hC.z b (by omega) (by omega) (by omega) (by omega)).mono ?_); rintro ee v5 ⟨g5, g6, p5, q5, p6, q6, n5, c5, m5, d5, n6, c6, m6, d6, rfl, hR, hQ, b1, b2, hg⟩; replace hA := hA.keep hg; replace hB := hB.keep hg; replace hF := hF.keep hg; replace hC := hC.keep hg; replace x0 := hg.cell x0 (by simp); replace x1 := hg.cell x1 (by simp); replace x2 := hg.cell x2 (by simp); replace x3 := hg.cell x3 (by simp); replace x4 := hg.cell x4 (by simp); replace x5 := hg.cell x5 (by simp); replace bx1 := (hg.block _ (lt_of_block bx1) (by simp)).trans bx1; replace hW := grown_trans hW hg; clear hg; have ff := ivbox_facts bx1; obtain ⟨⟨l0, l1, l2, l3, l4, l5⟩, f0, f1, f2, f3, f4, f5⟩ := ff))
  go_wp2_with fail
  exact bodyPost_ret (v := .tuple #[.agg #[.bool g5, .slice p5 n5 c5, .slice q5 m5 d5, .bool g6, .slice p6 n6 c6, .slice q6 m6 d6], .int .i64 0]) (by simp [results, Tryz.results8, go_sem, l0, l1, l2, l3, l4, l5, f0, f1, f2, f3, f4, f5]) rfl
    (WTPost.close bx1 (by omega) hW hR hQ ⟨by omega, by omega⟩ ⟨by omega, by omega⟩)

set_option maxRecDepth 20000 in
set_option maxHeartbeats 8000000 in
theorem inside_t (S : Nat) {w : World} {g1 g2 g3 g4 : Bool} {p1 q1 p2 q2 p3 q3 p4 q4 : Option Addr} {n1 c1 m1 d1 n2 c2 m2 d2 n3 c3 m3 d3 n4 c4 m4 d4 : Nat} {A B X Y : Rat} (hA : IsV w g1 p1 n1 c1 q1 m1 d1 A) (hB : IsV w g2 p2 n2 c2 q2 m2 d2 B) (hX : IsV w g3 p3 n3 c3 q3 m3 d3 X) (hY : IsV w g4 p4 n4 c4 q4 m4 d4 Y) (hn1 : n1 ≤ S) (hm1 : m1 ≤ S) (hn2 : n2 ≤ S) (hm2 : m2 ≤ S) (hn3 : n3 ≤ S) (hm3 : m3 ≤ S) (hn4 : n4 ≤ S) (hm4 : m4 ≤ S) (hS : S ≤ 1000) (h1 : inI X Y A = true) (h2 : inI X Y B = true) :
    Calls Tryz.prog 26 #[.agg #[.bool g1, .slice p1 n1 c1, .slice q1 m1 d1, .bool g2, .slice p2 n2 c2, .slice q2 m2 d2], .agg #[.bool g3, .slice p3 n3 c3, .slice q3 m3 d3, .bool g4, .slice p4 n4 c4, .slice q4 m4 d4]] w fun e w' => e = .returned (.bool true) ∧ w.grownBy w' none := by
  have H1 := hid h1
  have H2 := hid h2
  clear h1 h2
  have hW := (grown_trans (World.grownBy_alloc w (.cells #[.bool g1, .slice p1 n1 c1, .slice q1 m1 d1, .bool g2, .slice p2 n2 c2, .slice q2 m2 d2] 29) none) (World.grownBy_alloc _ (.cells #[.bool g3, .slice p3 n3 c3, .slice q3 m3 d3, .bool g4, .slice p4 n4 c4, .slice q4 m4 d4] 29) none))
  have bx0 : ((w.alloc (.cells #[.bool g1, .slice p1 n1 c1, .slice q1 m1 d1, .bool g2, .slice p2 n2 c2, .slice q2 m2 d2] 29)).alloc (.cells #[.bool g3, .slice p3 n3 c3, .slice q3 m3 d3, .bool g4, .slice p4 n4 c4, .slice q4 m4 d4] 29)).heap[w.heap.size]? = some (.cells #[.bool g1, .slice p1 n1 c1, .slice q1 m1 d1, .bool g2, .slice p2 n2 c2, .slice q2 m2 d2] 29 (0, 0)) := by
    have h0 := heap_alloc_new w (.cells #[.bool g1, .slice p1 n1 c1, .slice q1 m1 d1, .bool g2, .slice p2 n2 c2, .slice q2 m2 d2] 29)
    have h1 := (World.grownBy_alloc (w.alloc (.cells #[.bool g1, .slice p1 n1 c1, .slice q1 m1 d1, .bool g2, .slice p2 n2 c2, .slice q2 m2 d2] 29)) (.cells #[.bool g3, .slice p3 n3 c3, .slice q3 m3 d3, .bool g4, .slice p4 n4 c4, .slice q4 m4 d4] 29) none).block _ (lt_of_block h0) (by simp)
    have h2 := h1.trans h0
    simpa using h2
  have bx1 : ((w.alloc (.cells #[.bool g1, .slice p1 n1 c1, .slice q1 m1 d1, .bool g2, .slice p2 n2 c2, .slice q2 m2 d2] 29)).alloc (.cells #[.bool g3, .slice p3 n3 c3, .slice q3 m3 d3, .bool g4, .slice p4 n4 c4, .slice q4 m4 d4] 29)).heap[w.heap.size + 1]? = some (.cells #[.bool g3, .slice p3 n3 c3, .slice q3 m3 d3, .bool g4, .slice p4 n4 c4, .slice q4 m4 d4] 29 (0, 0)) := by
    have := heap_alloc_new (w.alloc (.cells #[.bool g1, .slice p1 n1 c1, .slice q1 m1 d1, .bool g2, .slice p2 n2 c2, .slice q2 m2 d2] 29)) (.cells #[.bool g3, .slice p3 n3 c3, .slice q3 m3 d3, .bool g4, .slice p4 n4 c4, .slice q4 m4 d4] 29)
    simpa using this
  replace hA := hA.keep hW; replace hB := hB.keep hW; replace hX := hX.keep hW; replace hY := hY.keep hW
  obtain ⟨⟨x0, x1, x2, x3, x4, x5⟩, _⟩ := ivbox_facts bx0
  obtain ⟨⟨y0, y1, y2, y3, y4, y5⟩, _⟩ := ivbox_facts bx1
  clear bx0 bx1
  go_enter Tryz.func26, Tryz.ntmps26
  go_wp2_with fail
  generalize ((w.alloc (.cells #[.bool g1, .slice p1 n1 c1, .slice q1 m1 d1, .bool g2, .slice p2 n2 c2, .slice q2 m2 d2] 29)).alloc (.cells #[.bool g3, .slice p3 n3 c3, .slice q3 m3 d3, .bool g4, .slice p4 n4 c4, .slice q4 m4 d4] 29)) = w0 at *
  refine (has_v S hX.q hY.q hA.q hn3 hm3 hn4 hm4 hn1 hm1 (by omega)).mono ?_
  rintro ee v1 ⟨rfl, hg⟩
  rw [H1.out]
  replace hA := hA.keep hg; replace hB := hB.keep hg; replace hX := hX.keep hg; replace hY := hY.keep hg
  replace x0 := hg.cell x0 (by simp); replace x1 := hg.cell x1 (by simp); replace x2 := hg.cell x2 (by simp); replace x3 := hg.cell x3 (by simp)
  replace x4 := hg.cell x4 (by simp); replace x5 := hg.cell x5 (by simp); replace y0 := hg.cell y0 (by simp); replace y1 := hg.cell y1 (by simp)
  replace y2 := hg.cell y2 (by simp); replace y3 := hg.cell y3 (by simp); replace y4 := hg.cell y4 (by simp); replace y5 := hg.cell y5 (by simp)
  replace hW := grown_trans hW hg
  clear hg
  go_wp2_with fail
  refine (has_v S hX.q hY.q hB.q hn3 hm3 hn4 hm4 hn2 hm2 (by omega)).mono ?_
  rintro ee v2 ⟨rfl, hg⟩
  rw [H2.out]
  replace hA := hA.keep hg; replace hB := hB.keep hg; replace hX := hX.keep hg; replace hY := hY.keep hg
  replace x0 := hg.cell x0 (by simp); replace x1 := hg.cell x1 (by simp); replace x2 := hg.cell x2 (by simp); replace x3 := hg.cell x3 (by simp)
  replace x4 := hg.cell x4 (by simp); replace x5 := hg.cell x5 (by simp); replace y0 := hg.cell y0 (by simp); replace y1 := hg.cell y1 (by simp)
  replace y2 := hg.cell y2 (by simp); replace y3 := hg.cell y3 (by simp); replace y4 := hg.cell y4 (by simp); replace y5 := hg.cell y5 (by simp)
  replace hW := grown_trans hW hg
  clear hg
  go_wp2_with fail
  go_ret
  exact ⟨rfl, hW⟩

theorem small4_three (a b c : IW) (ra rb rc : Bool) (w : World) (G : Nat) (hG : G = w.heap.size) (ha : a.rt w ra) (hb : b.rt w rb) (hc : c.rt w rc) :
    Calls Tryz.prog 6 #[.slice (some ⟨G, 0, none⟩) 3 3] (w.alloc (.cells #[.bool a.g1, .slice a.p1 a.n1 a.c1, .slice a.q1 a.m1 a.d1, .bool a.g2, .slice a.p2 a.n2 a.c2, .slice a.q2 a.m2 a.d2, .bool b.g1, .slice b.p1 b.n1 b.c1, .slice b.q1 b.m1 b.d1, .bool b.g2, .slice b.p2 b.n2 b.c2, .slice b.q2 b.m2 b.d2, .bool c.g1, .slice c.p1 c.n1 c.c1, .slice c.q1 c.m1 c.d1, .bool c.g2, .slice c.p2 c.n2 c.c2, .slice c.q2 c.m2 c.d2] 29)) fun e w' =>
      e = .returned (.bool (decide ((a.ok ∧ ra = true) ∧ (b.ok ∧ rb = true) ∧ c.ok ∧ rc = true))) ∧ w.grownBy w' none := by
  subst hG
  have hg := World.grownBy_alloc w (.cells #[.bool a.g1, .slice a.p1 a.n1 a.c1, .slice a.q1 a.m1 a.d1, .bool a.g2, .slice a.p2 a.n2 a.c2, .slice a.q2 a.m2 a.d2, .bool b.g1, .slice b.p1 b.n1 b.c1, .slice b.q1 b.m1 b.d1, .bool b.g2, .slice b.p2 b.n2 b.c2, .slice b.q2 b.m2 b.d2, .bool c.g1, .slice c.p1 c.n1 c.c1, .slice c.q1 c.m1 c.d1, .bool c.g2, .slice c.p2 c.n2 c.c2, .slice c.q2 c.m2 c.d2] 29) none
  have hbk := heap_alloc_new w (.cells #[.bool a.g1, .slice a.p1 a.n1 a.c1, .slice a.q1 a.m1 a.d1, .bool a.g2, .slice a.p2 a.n2 a.c2, .slice a.q2 a.m2 a.d2, .bool b.g1, .slice b.p1 b.n1 b.c1, .slice b.q1 b.m1 b.d1, .bool b.g2, .slice b.p2 b.n2 b.c2, .slice b.q2 b.m2 b.d2, .bool c.g1, .slice c.p1 c.n1 c.c1, .slice c.q1 c.m1 c.d1, .bool c.g2, .slice c.p2 c.n2 c.c2, .slice c.q2 c.m2 c.d2] 29)
  generalize w.alloc _ = w1 at *
  have k0 := cell_of_row w1 w.heap.size 0 _ _ _ hbk
  have k1 := cell_of_row w1 w.heap.size 1 _ _ _ hbk
  have k2 := cell_of_row w1 w.heap.size 2 _ _ _ hbk
  have k3 := cell_of_row w1 w.heap.size 3 _ _ _ hbk
  have k4 := cell_of_row w1 w.heap.size 4 _ _ _ hbk
  have k5 := cell_of_row w1 w.heap.size 5 _ _ _ hbk
  have k6 := cell_of_row w1 w.heap.size 6 _ _ _ hbk
  have k7 := cell_of_row w1 w.heap.size 7 _ _ _ hbk
  have k8 := cell_of_row w1 w.heap.size 8 _ _ _ hbk
  have k9 := cell_of_row w1 w.heap.size 9 _ _ _ hbk
  have k10 := cell_of_row w1 w.heap.size 10 _ _ _ hbk
  have k11 := cell_of_row w1 w.heap.size 11 _ _ _ hbk
  have k12 := cell_of_row w1 w.heap.size 12 _ _ _ hbk
  have k13 := cell_of_row w1 w.heap.size 13 _ _ _ hbk
  have k14 := cell_of_row w1 w.heap.size 14 _ _ _ hbk
  have k15 := cell_of_row w1 w.heap.size 15 _ _ _ hbk
  have k16 := cell_of_row w1 w.heap.size 16 _ _ _ hbk
  have k17 := cell_of_row w1 w.heap.size 17 _ _ _ hbk
  simp at k0 k1 k2 k3 k4 k5 k6 k7 k8 k9 k10 k11 k12 k13 k14 k15 k16 k17
  have := small4_any w.heap.size 3 [a, b, c] (fun j => if j = 0 then ra else if j = 1 then rb else rc) w1 (by simp) (fun j hj => by
    match j, hj with
    | 0, _ => exact ⟨⟨k0, k1, k2, k3, k4, k5⟩, ha.keep hg⟩
    | 1, _ => exact ⟨⟨k6, k7, k8, k9, k10, k11⟩, hb.keep hg⟩
    | 2, _ => exact ⟨⟨k12, k13, k14, k15, k16, k17⟩, hc.keep hg⟩)
  refine this.mono fun e w' ⟨h1, h2⟩ => ⟨h1.trans (congrArg Ending.returned (congrArg Value.bool (decide_eq_decide.2 ⟨fun h => ⟨h 0 (by simp), h 1 (by simp), h 2 (by simp)⟩, fun h j hj => ?_⟩))), grown_trans hg h2⟩
  match j, hj with
  | 0, _ => exact h.1
  | 1, _ => exact h.2.1
  | 2, _ => exact h.2.2

theorem small4_one (a : IW) (ra : Bool) (w : World) (G : Nat) (hG : G = w.heap.size) (ha : a.rt w ra) :
    Calls Tryz.prog 6 #[.slice (some ⟨G, 0, none⟩) 1 1] (w.alloc (.cells #[.bool a.g1, .slice a.p1 a.n1 a.c1, .slice a.q1 a.m1 a.d1, .bool a.g2, .slice a.p2 a.n2 a.c2, .slice a.q2 a.m2 a.d2] 29)) fun e w' =>
      e = .returned (.bool (decide (a.ok ∧ ra = true))) ∧ w.grownBy w' none := by
  subst hG
  have hg := World.grownBy_alloc w (.cells #[.bool a.g1, .slice a.p1 a.n1 a.c1, .slice a.q1 a.m1 a.d1, .bool a.g2, .slice a.p2 a.n2 a.c2, .slice a.q2 a.m2 a.d2] 29) none
  have hbk := heap_alloc_new w (.cells #[.bool a.g1, .slice a.p1 a.n1 a.c1, .slice a.q1 a.m1 a.d1, .bool a.g2, .slice a.p2 a.n2 a.c2, .slice a.q2 a.m2 a.d2] 29)
  generalize w.alloc _ = w1 at *
  have k0 := cell_of_row w1 w.heap.size 0 _ _ _ hbk
  have k1 := cell_of_row w1 w.heap.size 1 _ _ _ hbk
  have k2 := cell_of_row w1 w.heap.size 2 _ _ _ hbk
  have k3 := cell_of_row w1 w.heap.size 3 _ _ _ hbk
  have k4 := cell_of_row w1 w.heap.size 4 _ _ _ hbk
  have k5 := cell_of_row w1 w.heap.size 5 _ _ _ hbk
  simp at k0 k1 k2 k3 k4 k5
  have := small4_any w.heap.size 1 [a] (fun _ => ra) w1 (by simp) (fun j hj => by
    match j, hj with
    | 0, _ => exact ⟨⟨k0, k1, k2, k3, k4, k5⟩, ha.keep hg⟩)
  refine this.mono fun e w' ⟨h1, h2⟩ => ⟨h1.trans (congrArg Ending.returned (congrArg Value.bool (decide_eq_decide.2 ⟨fun h => h 0 (by simp), fun h j hj => ?_⟩))), grown_trans hg h2⟩
  match j, hj with
  | 0, _ => exact h
end Go.Proofs.YtcjoecmkkpmjmaaGreatDoor
