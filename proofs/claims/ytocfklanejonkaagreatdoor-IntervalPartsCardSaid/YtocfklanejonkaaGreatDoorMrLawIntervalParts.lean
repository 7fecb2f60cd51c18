/-
  Whatever the arguments are, the Go function IntervalParts returns true and leaves them as they are. Condition: the table deBruijn64tab of package math/bits holds what the program's text lays (the card ties it).
-/
import Derived.Test.YtocfklanejonkaaGreatDoorMrH
import Derived.Test.YtocfklanejonkaaGreatDoorMrD
import Derived.Deep.RegionHeld3
import Derived.Deep.DeepCutAuto
import Derived.Test.YtocfklanejonkaaGreatDoorMrK
import Derived.Test.YtocfklanejonkaaGreatDoorMrA

set_option linter.unusedVariables false
set_option linter.unusedSimpArgs false
namespace Go.Proofs.YtocfklanejonkaaGreatDoor
open Go.RowKit Nm
open Go

theorem count_set {l : Array Bool} {i : Nat} (h : l.getD i true = false) : (l.setIfInBounds i true).toList.count false + 1 = l.toList.count false := by
  have hi : i < l.size := by
    by_cases hi : i < l.size
    · exact hi
    · simp [Array.getD, hi] at h
  have hl : i < l.toList.length := by simpa using hi
  have he : l.toList[i] = false := by simpa [Array.getD, hi] using h
  rw [Array.toList_setIfInBounds, List.count_set hl, he]
  have : 0 < l.toList.count false := List.count_pos_iff.2 (he ▸ List.getElem_mem hl)
  rw [if_pos (by rfl), if_neg (by decide)]
  omega
theorem getD_big {l : Array Bool} {i : Nat} (h : l.size ≤ i) : l.getD i true = true := by simp [Array.getD, Nat.not_lt.2 h]
theorem ready_none {md : Region.Mode} {ops : Array Oper} {l : Array Bool} (h : l.toList.count false = 0) : Region.ready md ops l = [] := by
  apply List.eq_nil_iff_forall_not_mem.2
  intro i hi
  have := count_set (mem_ready.1 hi).1
  omega

/-- The states of a region: I says what holds where these operations have come up. -/
theorem wpAnyH_states {P : Program} {md : Region.Mode} {ops : Array Oper} {Q : Exit → Act → World → Prop} {S : World → Prop} (I : Array Bool → Act → World → Prop)
    (h : ∀ fuel listed a w, I listed a w → listed.toList.count false ≤ fuel → wpAnyH P md ops Q S fuel listed a w ∨ (Region.ready md ops listed ≠ [] ∧ ∀ i ∈ Region.ready md ops listed, wpOp P ops Q i (fun a' w' => S w' ∧ I (listed.setIfInBounds i true) a' w') a w)) :
    ∀ fuel listed a w, listed.toList.count false ≤ fuel → I listed a w → wpAnyH P md ops Q S fuel listed a w := by
  intro fuel
  induction fuel with
  | zero =>
    intro listed a w hc hI
    rcases h 0 listed a w hI hc with h1 | ⟨h1, _⟩
    · exact h1
    · exact absurd (ready_none (by omega)) h1
  | succ fuel ih =>
    intro listed a w hc hI
    rcases h (fuel + 1) listed a w hI hc with h1 | ⟨h1, h2⟩
    · exact h1
    · refine ⟨fun h0 => absurd h0 h1, fun i hi => wpOp_mono (fun a' w' h3 => ⟨h3.1, ih _ a' w' ?_ h3.2⟩) (h2 i hi)⟩
      have := count_set (mem_ready.1 hi).1
      omega
/-- One operation; the way back into the region is shut. -/
theorem op_step {P : Program} {ops : Array Oper} {Q : Exit → Act → World → Prop} {i : Nat} {o : Oper} {K : Act → World → Prop} {a : Act} {w : World} (ho : ops[i]? = some o)
    (h : ∀ K' : Act → World → Prop, Shut (∀ a w, K a w → K' a w) → if Region.wanted o (yielded ops a.tmps) = true then Oper.wp P o a w K' Q else K' (a.put o.dst undef) w) : wpOp P ops Q i K a w :=
  wpOp_step ho (fun K' hK => h K' hK)

/-- a slice of numbers -/
def SlF (w : World) (v : Value) (k : Nat) (l : List RV) : Prop := ∃ G : Nat, v = .slice (some ⟨G, 0, none⟩) k k ∧ RVs w G l ∧ G < w.heap.size
theorem SlF.keep {w w' : World} {v : Value} {k : Nat} {l : List RV} (h : SlF w v k l) (hg : w.grownBy w' none) : SlF w' v k l :=
  let ⟨G, e, r, hG⟩ := h; ⟨G, e, r.keep hg, Nat.lt_of_lt_of_le hG hg.size⟩
/-- a valid number -/
def NmF (w : World) (v : Value) (x : Rat) (b : Nat) : Prop := ∃ (g : Bool) (p : Option Addr) (n c : Nat) (q : Option Addr) (m d : Nat), v = .agg #[.bool g, .slice p n c, .slice q m d] ∧ IsV w g p n c q m d x ∧ n ≤ b ∧ m ≤ b
theorem NmF.keep {w w' : World} {v : Value} {x : Rat} {b : Nat} (h : NmF w v x b) (hg : w.grownBy w' none) : NmF w' v x b :=
  let ⟨g, p, n, c, q, m, d, e, r, h1, h2⟩ := h; ⟨g, p, n, c, q, m, d, e, r.keep hg, h1, h2⟩
/-- a new struct of the type api.Rat -/
def BxF (w0 w : World) (v : Value) : Prop := ∃ u : Nat, v = .pointer (some ⟨u, 0, none⟩) ∧ w0.heap.size ≤ u ∧ RBoxAt w u
theorem BxF.keep {w0 w w' : World} {v : Value} (h : BxF w0 w v) (hg : w.grownBy w' none) : BxF w0 w' v :=
  let ⟨u, e, hu, r⟩ := h; ⟨u, e, hu, r.grown hg⟩
theorem BxF.lt {w0 w : World} {v : Value} (h : BxF w0 w v) : v ≠ .pointer (some ⟨w.heap.size, 0, none⟩) := fun e => by
  obtain ⟨u, e1, _, r⟩ := h
  rw [e1] at e
  cases e
  exact Nat.lt_irrefl _ (lt_of_block r)
end Go.Proofs.YtocfklanejonkaaGreatDoor

set_option linter.unusedVariables false
set_option linter.unusedSimpArgs false
namespace Go.Proofs.YtocfklanejonkaaGreatDoor
open Go.RowKit Nm
open Go

/-- a valid interval and true -/
def WBPost (w : World) (lo hi : Rat) (B : Nat) (e : Ending) (w' : World) : Prop :=
  ∃ (g h : Bool) (p q r s : Option Addr) (n c m d k a l b : Nat), e = .returned (.tuple #[.agg #[.bool g, .slice p n c, .slice q m d, .bool h, .slice r k a, .slice s l b], .bool true]) ∧ IsV w' g p n c q m d lo ∧ IsV w' h r k a s l b hi ∧ (n ≤ B ∧ m ≤ B) ∧ (k ≤ B ∧ l ≤ B) ∧ w.grownBy w' none
theorem WPost.tupB {w w' : World} {lo hi : Rat} {B : Nat} {g h : Bool} {p q r s : Option Addr} {n c m d k a l b : Nat} (H : WPost w lo hi B (.returned (.agg #[.bool g, .slice p n c, .slice q m d, .bool h, .slice r k a, .slice s l b])) w') :
    WBPost w lo hi B (.returned (.tuple #[.agg #[.bool g, .slice p n c, .slice q m d, .bool h, .slice r k a, .slice s l b], .bool true])) w' := by
  obtain ⟨g', h', p', q', r', s', n', c', m', d', k', a', l', b', e, h1, h2, b1, b2, hg⟩ := H
  simp at e
  obtain ⟨rfl, ⟨rfl, rfl, rfl⟩, ⟨rfl, rfl, rfl⟩, rfl, ⟨rfl, rfl, rfl⟩, rfl, rfl, rfl⟩ := e
  exact ⟨_, _, _, _, _, _, _, _, _, _, _, _, _, _, rfl, h1, h2, b1, b2, hg⟩
/-- the zero Interval and false -/
def WBE (w : World) (e : Ending) (w' : World) : Prop := e = .returned (.tuple #[.agg #[.bool false, .slice none 0 0, .slice none 0 0, .bool false, .slice none 0 0, .slice none 0 0], .bool false]) ∧ w.grownBy w' none
theorem WBE.close {w w5 : World} {G : Nat} (hG : w.heap.size ≤ G) (hg : w.grownBy w5 none) (a b c d e f : Value) :
    WBE w (.returned (.tuple #[.agg #[.bool false, .slice none 0 0, .slice none 0 0, .bool false, .slice none 0 0, .slice none 0 0], .bool false])) ((((((w5.setCell ⟨G, 0, none⟩ a).setCell ⟨G, 1, none⟩ b).setCell ⟨G, 2, none⟩ c).setCell ⟨G, 3, none⟩ d).setCell ⟨G, 4, none⟩ e).setCell ⟨G, 5, none⟩ f) :=
  ⟨rfl, grown_new hg (set6_grown w5 G a b c d e f) (fun g e => by cases e; exact hG)⟩

/-- what Meet returns -/
def MtPost (w : World) (lo hi : Rat) (B : Nat) (e : Ending) (w' : World) : Prop := (lo ≤ hi → WBPost w lo hi B e w') ∧ (¬ lo ≤ hi → WBE w e w')
set_option maxRecDepth 100000 in
set_option maxHeartbeats 8000000 in
theorem ivMeet_any (S : Nat) {w : World} {g1 g2 g3 g4 : Bool} {p1 q1 p2 q2 p3 q3 p4 q4 : Option Addr} {n1 c1 m1 d1 n2 c2 m2 d2 n3 c3 m3 d3 n4 c4 m4 d4 : Nat} {A B X Y : Rat} (hA : IsV w g1 p1 n1 c1 q1 m1 d1 A) (hB : IsV w g2 p2 n2 c2 q2 m2 d2 B) (hX : IsV w g3 p3 n3 c3 q3 m3 d3 X) (hY : IsV w g4 p4 n4 c4 q4 m4 d4 Y) (hn1 : n1 ≤ S) (hm1 : m1 ≤ S) (hn2 : n2 ≤ S) (hm2 : m2 ≤ S) (hn3 : n3 ≤ S) (hm3 : m3 ≤ S) (hn4 : n4 ≤ S) (hm4 : m4 ≤ S) (hS : S ≤ 1000) :
    Calls Tryz.prog 17 #[.agg #[.bool g1, .slice p1 n1 c1, .slice q1 m1 d1, .bool g2, .slice p2 n2 c2, .slice q2 m2 d2], .agg #[.bool g3, .slice p3 n3 c3, .slice q3 m3 d3, .bool g4, .slice p4 n4 c4, .slice q4 m4 d4]] w (MtPost w (maxR A [X]) (minR B [Y]) S) := by
  have hW := (grown_trans (grown_trans (World.grownBy_alloc w (.cells #[.bool g1, .slice p1 n1 c1, .slice q1 m1 d1, .bool g2, .slice p2 n2 c2, .slice q2 m2 d2] 31) none) (World.grownBy_alloc _ (.cells #[.bool g3, .slice p3 n3 c3, .slice q3 m3 d3, .bool g4, .slice p4 n4 c4, .slice q4 m4 d4] 31) none)) (World.grownBy_alloc _ (.cells #[.bool false, .slice none 0 0, .slice none 0 0, .bool false, .slice none 0 0, .slice none 0 0] 31) none))
  have bx0 : (((w.alloc (.cells #[.bool g1, .slice p1 n1 c1, .slice q1 m1 d1, .bool g2, .slice p2 n2 c2, .slice q2 m2 d2] 31)).alloc (.cells #[.bool g3, .slice p3 n3 c3, .slice q3 m3 d3, .bool g4, .slice p4 n4 c4, .slice q4 m4 d4] 31)).alloc (.cells #[.bool false, .slice none 0 0, .slice none 0 0, .bool false, .slice none 0 0, .slice none 0 0] 31)).heap[w.heap.size]? = some (.cells #[.bool g1, .slice p1 n1 c1, .slice q1 m1 d1, .bool g2, .slice p2 n2 c2, .slice q2 m2 d2] 31 (0, 0)) := by
    have h0 := heap_alloc_new w (.cells #[.bool g1, .slice p1 n1 c1, .slice q1 m1 d1, .bool g2, .slice p2 n2 c2, .slice q2 m2 d2] 31)
    have h1 := (grown_trans (World.grownBy_alloc (w.alloc (.cells #[.bool g1, .slice p1 n1 c1, .slice q1 m1 d1, .bool g2, .slice p2 n2 c2, .slice q2 m2 d2] 31)) (.cells #[.bool g3, .slice p3 n3 c3, .slice q3 m3 d3, .bool g4, .slice p4 n4 c4, .slice q4 m4 d4] 31) none) (World.grownBy_alloc _ (.cells #[.bool false, .slice none 0 0, .slice none 0 0, .bool false, .slice none 0 0, .slice none 0 0] 31) none)).block _ (lt_of_block h0) (by simp)
    have h2 := h1.trans h0
    simpa using h2
  have bx1 : (((w.alloc (.cells #[.bool g1, .slice p1 n1 c1, .slice q1 m1 d1, .bool g2, .slice p2 n2 c2, .slice q2 m2 d2] 31)).alloc (.cells #[.bool g3, .slice p3 n3 c3, .slice q3 m3 d3, .bool g4, .slice p4 n4 c4, .slice q4 m4 d4] 31)).alloc (.cells #[.bool false, .slice none 0 0, .slice none 0 0, .bool false, .slice none 0 0, .slice none 0 0] 31)).heap[w.heap.size + 1]? = some (.cells #[.bool g3, .slice p3 n3 c3, .slice q3 m3 d3, .bool g4, .slice p4 n4 c4, .slice q4 m4 d4] 31 (0, 0)) := by
    have h0 := heap_alloc_new (w.alloc (.cells #[.bool g1, .slice p1 n1 c1, .slice q1 m1 d1, .bool g2, .slice p2 n2 c2, .slice q2 m2 d2] 31)) (.cells #[.bool g3, .slice p3 n3 c3, .slice q3 m3 d3, .bool g4, .slice p4 n4 c4, .slice q4 m4 d4] 31)
    have h1 := (World.grownBy_alloc ((w.alloc (.cells #[.bool g1, .slice p1 n1 c1, .slice q1 m1 d1, .bool g2, .slice p2 n2 c2, .slice q2 m2 d2] 31)).alloc (.cells #[.bool g3, .slice p3 n3 c3, .slice q3 m3 d3, .bool g4, .slice p4 n4 c4, .slice q4 m4 d4] 31)) (.cells #[.bool false, .slice none 0 0, .slice none 0 0, .bool false, .slice none 0 0, .slice none 0 0] 31) none).block _ (lt_of_block h0) (by simp)
    have h2 := h1.trans h0
    simpa using h2
  have bx2 : (((w.alloc (.cells #[.bool g1, .slice p1 n1 c1, .slice q1 m1 d1, .bool g2, .slice p2 n2 c2, .slice q2 m2 d2] 31)).alloc (.cells #[.bool g3, .slice p3 n3 c3, .slice q3 m3 d3, .bool g4, .slice p4 n4 c4, .slice q4 m4 d4] 31)).alloc (.cells #[.bool false, .slice none 0 0, .slice none 0 0, .bool false, .slice none 0 0, .slice none 0 0] 31)).heap[w.heap.size + 1 + 1]? = some (.cells #[.bool false, .slice none 0 0, .slice none 0 0, .bool false, .slice none 0 0, .slice none 0 0] 31 (0, 0)) := by
    have := heap_alloc_new ((w.alloc (.cells #[.bool g1, .slice p1 n1 c1, .slice q1 m1 d1, .bool g2, .slice p2 n2 c2, .slice q2 m2 d2] 31)).alloc (.cells #[.bool g3, .slice p3 n3 c3, .slice q3 m3 d3, .bool g4, .slice p4 n4 c4, .slice q4 m4 d4] 31)) (.cells #[.bool false, .slice none 0 0, .slice none 0 0, .bool false, .slice none 0 0, .slice none 0 0] 31)
    simpa using this
  replace hA := hA.keep hW; replace hB := hB.keep hW; replace hX := hX.keep hW; replace hY := hY.keep hW
  obtain ⟨⟨x0, x1, x2, x3, x4, x5⟩, _⟩ := ivbox_facts bx0
  obtain ⟨⟨y0, y1, y2, y3, y4, y5⟩, _⟩ := ivbox_facts bx1
  clear bx0 bx1
  go_enter Tryz.func17, Tryz.ntmps17
  go_upto_region 1 with fail
  generalize (((w.alloc (.cells #[.bool g1, .slice p1 n1 c1, .slice q1 m1 d1, .bool g2, .slice p2 n2 c2, .slice q2 m2 d2] 31)).alloc (.cells #[.bool g3, .slice p3 n3 c3, .slice q3 m3 d3, .bool g4, .slice p4 n4 c4, .slice q4 m4 d4] 31)).alloc (.cells #[.bool false, .slice none 0 0, .slice none 0 0, .bool false, .slice none 0 0, .slice none 0 0] 31)) = w0 at *
  have hlt0 := lt_of_block bx2
  have HC1 := hid (fun W (h : w0.grownBy W none) G (hl : RVs W G [⟨g3, p3, n3, c3, q3, m3, d3, X⟩]) (hG : G < W.heap.size) => greatest_v (cp := 1) S [⟨g3, p3, n3, c3, q3, m3, d3, X⟩] 1 rfl (hA.keep h) hl hG (one_sz ⟨hn3, hm3⟩) hn1 hm1 (by omega) (by omega))
  have HC2 := hid (fun W (h : w0.grownBy W none) G (hl : RVs W G [⟨g4, p4, n4, c4, q4, m4, d4, Y⟩]) (hG : G < W.heap.size) => least_v (cp := 1) S [⟨g4, p4, n4, c4, q4, m4, d4, Y⟩] 1 rfl (hB.keep h) hl hG (one_sz ⟨hn4, hm4⟩) hn2 hm2 (by omega) (by omega))
  unfold VPost at HC1 HC2
  have HX := hid hX; have HY := hid hY
  go_cut [6, 7] from 8 to 19 (fun s6 s7 wx => RPairB (maxR A [X]) (minR B [Y]) S w0 s6 s7 wx)
  case first =>
    refine wp_region_noPanic ?_
    refine wp_region_held_drew (S := fun w' => w'.cell? ⟨w.heap.size, 0, none⟩ = some (.bool g1) ∧ w'.cell? ⟨w.heap.size, 1, none⟩ = some (.slice p1 n1 c1) ∧ w'.cell? ⟨w.heap.size, 2, none⟩ = some (.slice q1 m1 d1) ∧ w'.cell? ⟨w.heap.size, 3, none⟩ = some (.bool g2) ∧ w'.cell? ⟨w.heap.size, 4, none⟩ = some (.slice p2 n2 c2) ∧ w'.cell? ⟨w.heap.size, 5, none⟩ = some (.slice q2 m2 d2) ∧ w'.cell? ⟨w.heap.size + 1, 0, none⟩ = some (.bool g3) ∧ w'.cell? ⟨w.heap.size + 1, 1, none⟩ = some (.slice p3 n3 c3) ∧ w'.cell? ⟨w.heap.size + 1, 2, none⟩ = some (.slice q3 m3 d3) ∧ w'.cell? ⟨w.heap.size + 1, 3, none⟩ = some (.bool g4) ∧ w'.cell? ⟨w.heap.size + 1, 4, none⟩ = some (.slice p4 n4 c4) ∧ w'.cell? ⟨w.heap.size + 1, 5, none⟩ = some (.slice q4 m4 d4)) (by kernel_rfl) ?_ (fun hHeld => ?_)
    · ((try go_split_ands) <;> (repeat' apply And.intro) <;> (repeat (first | (with_reducible assumption) | (with_reducible refine (grown_setCell _ _ _).cell ?_ (by simp; omega)) | (with_reducible refine (World.grownBy_alloc _ _ none).cell ?_ (by simp)) | (with_reducible refine (grown_drew _ none).cell ?_ (by simp)))))
    (refine wpAnyH_take (i := 0) (oi := Oper.mk _ _ _ _ _ _) (v := ?_) rfl (by kernel_rfl) (by kernel_rfl) (by kernel_rfl) (fun _ _ _ h => h) (Or.inl ⟨by kernel_rfl, ?_⟩) (by assumption) ?_; rotate_left 1; focus (intro w hSw; (try dsimp only at hSw); go_simp; (try (with_reducible rfl)); done); (try simp only [Act.put, List.setIfInBounds_toArray, List.set_cons_zero, List.set_cons_succ]))
    (refine wpAnyH_take (i := 1) (oi := Oper.mk _ _ _ _ _ _) (v := ?_) rfl (by kernel_rfl) (by kernel_rfl) (by kernel_rfl) (fun _ _ _ h => h) (Or.inl ⟨by kernel_rfl, ?_⟩) (by assumption) ?_; rotate_left 1; focus (intro w hSw; (try dsimp only at hSw); go_simp; (try (with_reducible rfl)); done); (try simp only [Act.put, List.setIfInBounds_toArray, List.set_cons_zero, List.set_cons_succ]))
    (refine wpAnyH_take (i := 2) (oi := Oper.mk _ _ _ _ _ _) (v := ?_) rfl (by kernel_rfl) (by kernel_rfl) (by kernel_rfl) (fun _ _ _ h => h) (Or.inl ⟨by kernel_rfl, ?_⟩) (by assumption) ?_; rotate_left 1; focus (intro w hSw; (try dsimp only at hSw); go_simp; (try (with_reducible rfl)); done); (try simp only [Act.put, List.setIfInBounds_toArray, List.set_cons_zero, List.set_cons_succ]))
    (refine wpAnyH_take (i := 3) (oi := Oper.mk _ _ _ _ _ _) (v := ?_) rfl (by kernel_rfl) (by kernel_rfl) (by kernel_rfl) (fun _ _ _ h => h) (Or.inl ⟨by kernel_rfl, ?_⟩) (by assumption) ?_; rotate_left 1; focus (intro w hSw; (try dsimp only at hSw); go_simp; (try (with_reducible rfl)); done); (try simp only [Act.put, List.setIfInBounds_toArray, List.set_cons_zero, List.set_cons_succ]))
    (refine wpAnyH_take (i := 6) (oi := Oper.mk _ _ _ _ _ _) (v := ?_) rfl (by kernel_rfl) (by kernel_rfl) (by kernel_rfl) (fun _ _ _ h => h) (Or.inl ⟨by kernel_rfl, ?_⟩) (by assumption) ?_; rotate_left 1; focus (intro w hSw; (try dsimp only at hSw); go_simp; (try (with_reducible rfl)); done); (try simp only [Act.put, List.setIfInBounds_toArray, List.set_cons_zero, List.set_cons_succ]))
    (refine wpAnyH_take (i := 7) (oi := Oper.mk _ _ _ _ _ _) (v := ?_) rfl (by kernel_rfl) (by kernel_rfl) (by kernel_rfl) (fun _ _ _ h => h) (Or.inl ⟨by kernel_rfl, ?_⟩) (by assumption) ?_; rotate_left 1; focus (intro w hSw; (try dsimp only at hSw); go_simp; (try (with_reducible rfl)); done); (try simp only [Act.put, List.setIfInBounds_toArray, List.set_cons_zero, List.set_cons_succ]))
    (refine wpAnyH_take (i := 8) (oi := Oper.mk _ _ _ _ _ _) (v := ?_) rfl (by kernel_rfl) (by kernel_rfl) (by kernel_rfl) (fun _ _ _ h => h) (Or.inl ⟨by kernel_rfl, ?_⟩) (by assumption) ?_; rotate_left 1; focus (intro w hSw; (try dsimp only at hSw); go_simp; (try (with_reducible rfl)); done); (try simp only [Act.put, List.setIfInBounds_toArray, List.set_cons_zero, List.set_cons_succ]))
    (refine wpAnyH_take (i := 9) (oi := Oper.mk _ _ _ _ _ _) (v := ?_) rfl (by kernel_rfl) (by kernel_rfl) (by kernel_rfl) (fun _ _ _ h => h) (Or.inl ⟨by kernel_rfl, ?_⟩) (by assumption) ?_; rotate_left 1; focus (intro w hSw; (try dsimp only at hSw); go_simp; (try (with_reducible rfl)); done); (try simp only [Act.put, List.setIfInBounds_toArray, List.set_cons_zero, List.set_cons_succ]))
    refine wpAnyH_states (I := fun listed a wx => ∃ (l4 l5 lA lB l6 l7 : Bool) (v12 v13 v18 v19 v6 v7 : Value), listed = #[true, true, true, true, l4, l5, true, true, true, true, lA, lB, l6, l7, false, false] ∧ a = ⟨#[.agg #[.bool g1, .slice p1 n1 c1, .slice q1 m1 d1, .bool g2, .slice p2 n2 c2, .slice q2 m2 d2], .agg #[.bool g3, .slice p3 n3 c3, .slice q3 m3 d3, .bool g4, .slice p4 n4 c4, .slice q4 m4 d4], .pointer (some ⟨w.heap.size, 0, none⟩), .pointer (some ⟨w.heap.size + 1, 0, none⟩), .pointer (some ⟨w.heap.size + 1 + 1, 0, none⟩), .bool false, v6, v7, .pointer (some ⟨w.heap.size, 0, none⟩), .agg #[.bool g1, .slice p1 n1 c1, .slice q1 m1 d1], .pointer (some ⟨w.heap.size + 1, 0, none⟩), .agg #[.bool g3, .slice p3 n3 c3, .slice q3 m3 d3], v12, v13, .pointer (some ⟨w.heap.size, 3, none⟩), .agg #[.bool g2, .slice p2 n2 c2, .slice q2 m2 d2], .pointer (some ⟨w.heap.size + 1, 3, none⟩), .agg #[.bool g4, .slice p4 n4 c4, .slice q4 m4 d4], v18, v19, undef, undef, undef, undef, undef, undef, undef, undef], []⟩ ∧ (wx.cell? ⟨w.heap.size, 0, none⟩ = some (.bool g1) ∧ wx.cell? ⟨w.heap.size, 1, none⟩ = some (.slice p1 n1 c1) ∧ wx.cell? ⟨w.heap.size, 2, none⟩ = some (.slice q1 m1 d1) ∧ wx.cell? ⟨w.heap.size, 3, none⟩ = some (.bool g2) ∧ wx.cell? ⟨w.heap.size, 4, none⟩ = some (.slice p2 n2 c2) ∧ wx.cell? ⟨w.heap.size, 5, none⟩ = some (.slice q2 m2 d2) ∧ wx.cell? ⟨w.heap.size + 1, 0, none⟩ = some (.bool g3) ∧ wx.cell? ⟨w.heap.size + 1, 1, none⟩ = some (.slice p3 n3 c3) ∧ wx.cell? ⟨w.heap.size + 1, 2, none⟩ = some (.slice q3 m3 d3) ∧ wx.cell? ⟨w.heap.size + 1, 3, none⟩ = some (.bool g4) ∧ wx.cell? ⟨w.heap.size + 1, 4, none⟩ = some (.slice p4 n4 c4) ∧ wx.cell? ⟨w.heap.size + 1, 5, none⟩ = some (.slice q4 m4 d4)) ∧ w0.grownBy wx none ∧ Hid ((l4 = true → l5 = false → SlF wx v12 1 [⟨g3, p3, n3, c3, q3, m3, d3, X⟩]) ∧ (l5 = true → l4 = true ∧ NmF wx v13 (maxR A [X]) S) ∧ (lA = true → lB = false → SlF wx v18 1 [⟨g4, p4, n4, c4, q4, m4, d4, Y⟩]) ∧ (lB = true → lA = true ∧ NmF wx v19 (minR B [Y]) S) ∧ (l6 = true → BxF w0 wx v6) ∧ (l7 = true → BxF w0 wx v7) ∧ (l6 = true → l7 = true → v6 ≠ v7))) ?_ _ _ _ _ (by decide +kernel) ?_
    rotate_left
    · refine ⟨false, false, false, false, false, false, undef, undef, undef, undef, undef, undef, rfl, rfl, hHeld, grown_drew _ _, hid ?_⟩
      refine ⟨fun h => ?_, fun h => ?_, fun h => ?_, fun h => ?_, fun h => ?_, fun h => ?_, fun h => ?_⟩ <;> cases h
    clear hHeld x0 x1 x2 x3 x4 x5 y0 y1 y2 y3 y4 y5 hA hB hX hY bx2
    rintro fuel listed a wx ⟨l4, l5, lA, lB, l6, l7, v12, v13, v18, v19, v6, v7, rfl, rfl, hS, hg, hF⟩ hc
    have HS2 := hid (fun W (h : wx.grownBy W none) => (⟨h.cell hS.1 (by simp), h.cell hS.2.1 (by simp), h.cell hS.2.2.1 (by simp), h.cell hS.2.2.2.1 (by simp), h.cell hS.2.2.2.2.1 (by simp), h.cell hS.2.2.2.2.2.1 (by simp), h.cell hS.2.2.2.2.2.2.1 (by simp), h.cell hS.2.2.2.2.2.2.2.1 (by simp), h.cell hS.2.2.2.2.2.2.2.2.1 (by simp), h.cell hS.2.2.2.2.2.2.2.2.2.1 (by simp), h.cell hS.2.2.2.2.2.2.2.2.2.2.1 (by simp), h.cell hS.2.2.2.2.2.2.2.2.2.2.2 (by simp)⟩ : W.cell? ⟨w.heap.size, 0, none⟩ = some (.bool g1) ∧ W.cell? ⟨w.heap.size, 1, none⟩ = some (.slice p1 n1 c1) ∧ W.cell? ⟨w.heap.size, 2, none⟩ = some (.slice q1 m1 d1) ∧ W.cell? ⟨w.heap.size, 3, none⟩ = some (.bool g2) ∧ W.cell? ⟨w.heap.size, 4, none⟩ = some (.slice p2 n2 c2) ∧ W.cell? ⟨w.heap.size, 5, none⟩ = some (.slice q2 m2 d2) ∧ W.cell? ⟨w.heap.size + 1, 0, none⟩ = some (.bool g3) ∧ W.cell? ⟨w.heap.size + 1, 1, none⟩ = some (.slice p3 n3 c3) ∧ W.cell? ⟨w.heap.size + 1, 2, none⟩ = some (.slice q3 m3 d3) ∧ W.cell? ⟨w.heap.size + 1, 3, none⟩ = some (.bool g4) ∧ W.cell? ⟨w.heap.size + 1, 4, none⟩ = some (.slice p4 n4 c4) ∧ W.cell? ⟨w.heap.size + 1, 5, none⟩ = some (.slice q4 m4 d4)))
    have HSx := hid hS
    clear hS
    by_cases hall : l4 = true ∧ l5 = true ∧ lA = true ∧ lB = true ∧ l6 = true ∧ l7 = true
    · refine Or.inl ?_
      obtain ⟨rfl, rfl, rfl, rfl, rfl, rfl⟩ := hall
      obtain ⟨_, f5, _, fB, f6, f7, fd⟩ := hF.out
      obtain ⟨u, rfl, hu, bu⟩ := f6 rfl
      obtain ⟨v, rfl, hv, bv⟩ := f7 rfl
      have hne := fd rfl rfl
      obtain ⟨_, g5, p5, n5, c5, q5, m5, d5, rfl, hP, hn5, hm5⟩ := f5 rfl
      obtain ⟨_, g6, p6, n6, c6, q6, m6, d6, rfl, hQ, hn6, hm6⟩ := fB rfl
      clear hF f5 fB f6 f7 fd
      have hne1 : u ≠ v := fun e => hne (by rw [e])
      have hne2 : v ≠ u := Ne.symm hne1
      clear hne
      have h2 : 2 ≤ fuel := hc
      obtain ⟨f, rfl⟩ : ∃ f, fuel = f + 1 + 1 := ⟨fuel - 2, by omega⟩
      clear hc h2
      have hS := HSx.out
      obtain ⟨y0, y1, y2, y3, y4, y5, y6⟩ := bu.facts
      obtain ⟨z0, z1, z2, z3, z4, z5, z6⟩ := bv.facts
      have HBu := hid bu; have HBv := hid bv; have HP := hid hP; have HQ := hid hQ
      clear bu bv hP hQ HS2
      refine wpAnyH_ready (rs := [14]) (by kernel_rfl) (by simp) ?_
      refine AllReadyH.cons (o := Oper.mk _ _ _ _ _ _) rfl (fun K hK => ?_) AllReadyH.nil
      rw [if_pos (by rfl)]
      go_simp
      refine hK.out _ _ ?_ (fun hNew => ?_)
      · (try dsimp only)
        ((try go_split_ands) <;> (repeat' apply And.intro) <;> (repeat (first | (with_reducible assumption) | (with_reducible refine (grown_setCell _ _ _).cell ?_ (by simp; omega)) | (with_reducible refine (World.grownBy_alloc _ _ none).cell ?_ (by simp)) | (with_reducible refine (grown_drew _ none).cell ?_ (by simp)))))
      clear hK K
      (try simp only [Act.put, List.setIfInBounds_toArray, List.set_cons_zero, List.set_cons_succ])
      refine wpAnyH_ready (rs := [15]) (by kernel_rfl) (by simp) ?_
      refine AllReadyH.cons (o := Oper.mk _ _ _ _ _ _) rfl (fun K hK => ?_) AllReadyH.nil
      rw [if_pos (by rfl)]
      go_simp
      refine hK.out _ _ ?_ (fun hNew2 => ?_)
      · (try dsimp only)
        ((try go_split_ands) <;> (repeat' apply And.intro) <;> (repeat (first | (with_reducible assumption) | (with_reducible refine (grown_setCell _ _ _).cell ?_ (by simp; omega)) | (with_reducible refine (World.grownBy_alloc _ _ none).cell ?_ (by simp)) | (with_reducible refine (grown_drew _ none).cell ?_ (by simp)))))
      clear hK K
      (try simp only [Act.put, List.setIfInBounds_toArray, List.set_cons_zero, List.set_cons_succ])
      refine wpAnyH_done (by kernel_rfl) ?_ _
      refine NoPanic.normal ?_
      go_wp2_with fail
      go_meet
      exact ⟨rleaf_sets HP.out HQ.out ⟨hn5, hm5⟩ ⟨hn6, hm6⟩ hg HBu.out HBv.out hu hv hne2, fun a e => by cases e; exact hu, fun a e => by cases e; exact hv⟩
    · refine Or.inr ⟨?_, ?_⟩
      · clear HS2 HSx hF hg hc
        cases l4 <;> cases l5 <;> cases lA <;> cases lB <;> cases l6 <;> cases l7 <;> first | exact absurd ⟨rfl, rfl, rfl, rfl, rfl, rfl⟩ hall | decide +kernel
      · clear hc
        intro i hi
        obtain ⟨h1, oj, h2, h3⟩ := mem_ready.1 hi
        clear hi
        match i, h1, h2 with
        | 0, h1, h2 =>
          exact absurd (show true = false from h1) (by simp)
        | 1, h1, h2 =>
          exact absurd (show true = false from h1) (by simp)
        | 2, h1, h2 =>
          exact absurd (show true = false from h1) (by simp)
        | 3, h1, h2 =>
          exact absurd (show true = false from h1) (by simp)
        | 4, h1, h2 =>
          obtain rfl : l4 = false := h1
          cases h2
          have hF2 := hF.out
          obtain ⟨f4, f5, fA, fB, f6, f7, fd⟩ := hF2
          clear hF
          have hcall : l5 = false := by
            cases l5
            · rfl
            · cases (f5 rfl).1
          have hFF := hid (And.intro f4 (And.intro f5 (And.intro fA (And.intro fB (And.intro f6 (And.intro f7 fd))))))
          clear f4 f5 fA fB f6 f7 fd h3
          refine op_step (o := Oper.mk _ _ _ _ _ _) rfl (fun K hK => ?_)
          rw [if_pos (by rfl)]
          go_simp
          have hG := World.grownBy_alloc wx (.cells #[.bool g3, .slice p3 n3 c3, .slice q3 m3 d3] 27) none
          have hb := heap_alloc_new wx (.cells #[.bool g3, .slice p3 n3 c3, .slice q3 m3 d3] 27)
          obtain ⟨f4, f5, fA, fB, f6, f7, fd⟩ := hFF.out
          refine hK.out _ _ ⟨HS2.out _ hG, true, l5, lA, lB, l6, l7, _, v13, v18, v19, v6, v7, rfl, rfl, HS2.out _ hG, grown_trans hg hG, hid ⟨fun _ _ => ⟨_, rfl, rvs1 (a := ⟨g3, p3, n3, c3, q3, m3, d3, X⟩) hb (HX.out.keep (grown_trans hg hG)), lt_of_block hb⟩, fun a => ⟨rfl, (f5 a).2.keep hG⟩, fun a b => (fA a b).keep hG, fun a => ⟨(fB a).1, (fB a).2.keep hG⟩, fun a => (f6 a).keep hG, fun a => (f7 a).keep hG, fd⟩⟩
        | 5, h1, h2 =>
          obtain rfl : l5 = false := h1
          cases h2
          have hF2 := hF.out
          obtain ⟨f4, f5, fA, fB, f6, f7, fd⟩ := hF2
          clear hF
          have hd : l4 = true := h3 { on := 4, ground := .data } (by simp) rfl
          obtain ⟨G, rfl, hl, hGl⟩ := f4 hd rfl
          have hFF := hid (And.intro f4 (And.intro f5 (And.intro fA (And.intro fB (And.intro f6 (And.intro f7 fd))))))
          clear f4 f5 fA fB f6 f7 fd h3
          refine op_step (o := Oper.mk _ _ _ _ _ _) rfl (fun K hK => ?_)
          rw [if_pos (by rfl)]
          go_simp
          refine (HC1.out wx hg G hl hGl).mono ?_
          rintro ee w1 ⟨g, p, n, c, q, m, d, rfl, hM, hn, hm, hG⟩
          (try go_wp2_with fail)
          obtain ⟨f4, f5, fA, fB, f6, f7, fd⟩ := hFF.out
          refine hK.out _ _ ⟨HS2.out _ hG, l4, true, lA, lB, l6, l7, _, _, v18, v19, v6, v7, rfl, rfl, HS2.out _ hG, grown_trans hg hG, hid ⟨fun _ h => (by cases h), fun _ => ⟨hd, _, _, _, _, _, _, _, rfl, hM, hn, hm⟩, fun a b => (fA a b).keep hG, fun a => ⟨(fB a).1, (fB a).2.keep hG⟩, fun a => (f6 a).keep hG, fun a => (f7 a).keep hG, fd⟩⟩
        | 6, h1, h2 =>
          exact absurd (show true = false from h1) (by simp)
        | 7, h1, h2 =>
          exact absurd (show true = false from h1) (by simp)
        | 8, h1, h2 =>
          exact absurd (show true = false from h1) (by simp)
        | 9, h1, h2 =>
          exact absurd (show true = false from h1) (by simp)
        | 10, h1, h2 =>
          obtain rfl : lA = false := h1
          cases h2
          have hF2 := hF.out
          obtain ⟨f4, f5, fA, fB, f6, f7, fd⟩ := hF2
          clear hF
          have hcall : lB = false := by
            cases lB
            · rfl
            · cases (fB rfl).1
          have hFF := hid (And.intro f4 (And.intro f5 (And.intro fA (And.intro fB (And.intro f6 (And.intro f7 fd))))))
          clear f4 f5 fA fB f6 f7 fd h3
          refine op_step (o := Oper.mk _ _ _ _ _ _) rfl (fun K hK => ?_)
          rw [if_pos (by rfl)]
          go_simp
          have hG := World.grownBy_alloc wx (.cells #[.bool g4, .slice p4 n4 c4, .slice q4 m4 d4] 27) none
          have hb := heap_alloc_new wx (.cells #[.bool g4, .slice p4 n4 c4, .slice q4 m4 d4] 27)
          obtain ⟨f4, f5, fA, fB, f6, f7, fd⟩ := hFF.out
          refine hK.out _ _ ⟨HS2.out _ hG, l4, l5, true, lB, l6, l7, v12, v13, _, v19, v6, v7, rfl, rfl, HS2.out _ hG, grown_trans hg hG, hid ⟨fun a b => (f4 a b).keep hG, fun a => ⟨(f5 a).1, (f5 a).2.keep hG⟩, fun _ _ => ⟨_, rfl, rvs1 (a := ⟨g4, p4, n4, c4, q4, m4, d4, Y⟩) hb (HY.out.keep (grown_trans hg hG)), lt_of_block hb⟩, fun a => ⟨rfl, (fB a).2.keep hG⟩, fun a => (f6 a).keep hG, fun a => (f7 a).keep hG, fd⟩⟩
        | 11, h1, h2 =>
          obtain rfl : lB = false := h1
          cases h2
          have hF2 := hF.out
          obtain ⟨f4, f5, fA, fB, f6, f7, fd⟩ := hF2
          clear hF
          have hd : lA = true := h3 { on := 10, ground := .data } (by simp) rfl
          obtain ⟨G, rfl, hl, hGl⟩ := fA hd rfl
          have hFF := hid (And.intro f4 (And.intro f5 (And.intro fA (And.intro fB (And.intro f6 (And.intro f7 fd))))))
          clear f4 f5 fA fB f6 f7 fd h3
          refine op_step (o := Oper.mk _ _ _ _ _ _) rfl (fun K hK => ?_)
          rw [if_pos (by rfl)]
          go_simp
          refine (HC2.out wx hg G hl hGl).mono ?_
          rintro ee w1 ⟨g, p, n, c, q, m, d, rfl, hM, hn, hm, hG⟩
          (try go_wp2_with fail)
          obtain ⟨f4, f5, fA, fB, f6, f7, fd⟩ := hFF.out
          refine hK.out _ _ ⟨HS2.out _ hG, l4, l5, lA, true, l6, l7, v12, v13, _, _, v6, v7, rfl, rfl, HS2.out _ hG, grown_trans hg hG, hid ⟨fun a b => (f4 a b).keep hG, fun a => ⟨(f5 a).1, (f5 a).2.keep hG⟩, fun _ h => (by cases h), fun _ => ⟨hd, _, _, _, _, _, _, _, rfl, hM, hn, hm⟩, fun a => (f6 a).keep hG, fun a => (f7 a).keep hG, fd⟩⟩
        | 12, h1, h2 =>
          obtain rfl : l6 = false := h1
          cases h2
          have hF2 := hF.out
          obtain ⟨f4, f5, fA, fB, f6, f7, fd⟩ := hF2
          clear hF
          have hFF := hid (And.intro f4 (And.intro f5 (And.intro fA (And.intro fB (And.intro f6 (And.intro f7 fd))))))
          clear f4 f5 fA fB f6 f7 fd h3
          refine op_step (o := Oper.mk _ _ _ _ _ _) rfl (fun K hK => ?_)
          rw [if_pos (by rfl)]
          go_simp
          have hG := World.grownBy_alloc wx (.cells #[.bool false, .slice none 0 0, .slice none 0 0] 27) none
          obtain ⟨f4, f5, fA, fB, f6, f7, fd⟩ := hFF.out
          refine hK.out _ _ ⟨HS2.out _ hG, l4, l5, lA, lB, true, l7, v12, v13, v18, v19, _, v7, rfl, rfl, HS2.out _ hG, grown_trans hg hG, hid ⟨fun a b => (f4 a b).keep hG, fun a => ⟨(f5 a).1, (f5 a).2.keep hG⟩, fun a b => (fA a b).keep hG, fun a => ⟨(fB a).1, (fB a).2.keep hG⟩, fun _ => ⟨_, rfl, hg.size, RBoxAt.new wx⟩, fun a => (f7 a).keep hG, fun _ h => Ne.symm (f7 h).lt⟩⟩
        | 13, h1, h2 =>
          obtain rfl : l7 = false := h1
          cases h2
          have hF2 := hF.out
          obtain ⟨f4, f5, fA, fB, f6, f7, fd⟩ := hF2
          clear hF
          have hFF := hid (And.intro f4 (And.intro f5 (And.intro fA (And.intro fB (And.intro f6 (And.intro f7 fd))))))
          clear f4 f5 fA fB f6 f7 fd h3
          refine op_step (o := Oper.mk _ _ _ _ _ _) rfl (fun K hK => ?_)
          rw [if_pos (by rfl)]
          go_simp
          have hG := World.grownBy_alloc wx (.cells #[.bool false, .slice none 0 0, .slice none 0 0] 27) none
          obtain ⟨f4, f5, fA, fB, f6, f7, fd⟩ := hFF.out
          refine hK.out _ _ ⟨HS2.out _ hG, l4, l5, lA, lB, l6, true, v12, v13, v18, v19, v6, _, rfl, rfl, HS2.out _ hG, grown_trans hg hG, hid ⟨fun a b => (f4 a b).keep hG, fun a => ⟨(f5 a).1, (f5 a).2.keep hG⟩, fun a b => (fA a b).keep hG, fun a => ⟨(fB a).1, (fB a).2.keep hG⟩, fun a => (f6 a).keep hG, fun _ => ⟨_, rfl, hg.size, RBoxAt.new wx⟩, fun h _ => (f6 h).lt⟩⟩
        | 14, h1, h2 =>
          exfalso
          cases h2
          have k4 : l4 = true := h3 { on := 4, ground := .phase } (by simp) rfl
          have k5 : l5 = true := h3 { on := 5, ground := .phase } (by simp) rfl
          have kB : lB = true := h3 { on := 11, ground := .chain } (by simp) rfl
          have kA : lA = true := ((hF.out).2.2.2.1 kB).1
          have k6 : l6 = true := h3 { on := 12, ground := .phase } (by simp) rfl
          have k7 : l7 = true := h3 { on := 13, ground := .phase } (by simp) rfl
          exact hall ⟨k4, k5, kA, kB, k6, k7⟩
        | 15, h1, h2 =>
          exfalso
          cases h2
          have k4 : l4 = true := h3 { on := 4, ground := .phase } (by simp) rfl
          have k5 : l5 = true := h3 { on := 5, ground := .phase } (by simp) rfl
          have kB : lB = true := h3 { on := 11, ground := .data } (by simp) rfl
          have kA : lA = true := ((hF.out).2.2.2.1 kB).1
          have k6 : l6 = true := h3 { on := 12, ground := .phase } (by simp) rfl
          have k7 : l7 = true := h3 { on := 13, ground := .phase } (by simp) rfl
          exact hall ⟨k4, k5, kA, kB, k6, k7⟩
        | n + 16, h1, _ => exact absurd ((getD_big (Nat.le_add_left 16 n)).symm.trans h1) (by simp)
  case rest =>
    obtain ⟨⟨u, v, g5, g6, p5, p6, q5, q6, n5, c5, m5, d5, n6, c6, m6, d6, rfl, rfl, s0, s1, s2, t0, t1, t2, hP, hQ, ⟨hn5, hm5⟩, ⟨hn6, hm6⟩, hg⟩, hu, hv⟩ := hcut
    clear HC1 HC2 HX HY hu hv
    replace hA := hA.keep hg; replace hB := hB.keep hg; replace hX := hX.keep hg; replace hY := hY.keep hg
    replace x0 := hg.cell x0 (by simp); replace x1 := hg.cell x1 (by simp); replace x2 := hg.cell x2 (by simp); replace x3 := hg.cell x3 (by simp)
    replace x4 := hg.cell x4 (by simp); replace x5 := hg.cell x5 (by simp); replace y0 := hg.cell y0 (by simp); replace y1 := hg.cell y1 (by simp)
    replace y2 := hg.cell y2 (by simp); replace y3 := hg.cell y3 (by simp); replace y4 := hg.cell y4 (by simp); replace y5 := hg.cell y5 (by simp)
    replace bx2 := (hg.block _ (lt_of_block bx2) (by simp)).trans bx2; replace hW := grown_trans hW hg
    clear hg
    go_wp2_with fail
    refine (ratCmp_v S hP.q hQ.q hn5 hm5 hn6 hm6 (by omega)).mono ?_
    rintro ee v1 ⟨rfl, hg⟩
    replace hA := hA.keep hg; replace hB := hB.keep hg; replace hX := hX.keep hg; replace hY := hY.keep hg
    replace hP := hP.keep hg; replace hQ := hQ.keep hg; replace x0 := hg.cell x0 (by simp); replace x1 := hg.cell x1 (by simp)
    replace x2 := hg.cell x2 (by simp); replace x3 := hg.cell x3 (by simp); replace x4 := hg.cell x4 (by simp); replace x5 := hg.cell x5 (by simp)
    replace y0 := hg.cell y0 (by simp); replace y1 := hg.cell y1 (by simp); replace y2 := hg.cell y2 (by simp); replace y3 := hg.cell y3 (by simp)
    replace y4 := hg.cell y4 (by simp); replace y5 := hg.cell y5 (by simp); replace s0 := hg.cell s0 (by simp); replace s1 := hg.cell s1 (by simp)
    replace s2 := hg.cell s2 (by simp); replace t0 := hg.cell t0 (by simp); replace t1 := hg.cell t1 (by simp); replace t2 := hg.cell t2 (by simp)
    replace bx2 := (hg.block _ (lt_of_block bx2) (by simp)).trans bx2; replace hW := grown_trans hW hg
    clear hg
    by_cases hle : maxR A [X] ≤ minR B [Y]
    · have HLE := hid hle
      clear hle
      have hcc : ¬ (0 < cmpR (maxR A [X]) (minR B [Y])) := fun h => by have := cmpR_le HLE.out; omega
      go_wp2_with fail
      refine (between_v S hP hQ hn5 hm5 hn6 hm6 (by omega)).mono ?_
      rintro ee v9 ⟨g9, g10, p9, q9, p10, q10, n9, c9, m9, d9, n10, c10, m10, d10, rfl, hR, hS2, b1, b2, hg⟩
      replace hA := hA.keep hg; replace hB := hB.keep hg; replace hX := hX.keep hg; replace hY := hY.keep hg
      replace hP := hP.keep hg; replace hQ := hQ.keep hg; replace x0 := hg.cell x0 (by simp); replace x1 := hg.cell x1 (by simp)
      replace x2 := hg.cell x2 (by simp); replace x3 := hg.cell x3 (by simp); replace x4 := hg.cell x4 (by simp); replace x5 := hg.cell x5 (by simp)
      replace y0 := hg.cell y0 (by simp); replace y1 := hg.cell y1 (by simp); replace y2 := hg.cell y2 (by simp); replace y3 := hg.cell y3 (by simp)
      replace y4 := hg.cell y4 (by simp); replace y5 := hg.cell y5 (by simp); replace s0 := hg.cell s0 (by simp); replace s1 := hg.cell s1 (by simp)
      replace s2 := hg.cell s2 (by simp); replace t0 := hg.cell t0 (by simp); replace t1 := hg.cell t1 (by simp); replace t2 := hg.cell t2 (by simp)
      replace bx2 := (hg.block _ (lt_of_block bx2) (by simp)).trans bx2; replace hW := grown_trans hW hg
      clear hg
      have ff := ivbox_facts bx2; obtain ⟨⟨l0, l1, l2, l3, l4, l5⟩, f0, f1, f2, f3, f4, f5⟩ := ff
      go_wp2_with fail
      exact bodyPost_ret (v := .tuple #[.agg #[.bool g9, .slice p9 n9 c9, .slice q9 m9 d9, .bool g10, .slice p10 n10 c10, .slice q10 m10 d10], .bool true]) (by simp [results, Tryz.results17, go_sem, l0, l1, l2, l3, l4, l5, f0, f1, f2, f3, f4, f5]) rfl
        ⟨fun _ => (WPost.tupB (WPost.close bx2 (by omega) hW hR hS2 b1 b2)), fun h => absurd HLE.out h⟩
    · have HLE := hid hle
      clear hle
      have hcc : 0 < cmpR (maxR A [X]) (minR B [Y]) := cmpR_pos HLE.out
      have ff := ivbox_facts bx2; obtain ⟨⟨l0, l1, l2, l3, l4, l5⟩, f0, f1, f2, f3, f4, f5⟩ := ff
      go_wp2_with fail
      exact bodyPost_ret (v := .tuple #[.agg #[.bool false, .slice none 0 0, .slice none 0 0, .bool false, .slice none 0 0, .slice none 0 0], .bool false]) (by simp [results, Tryz.results17, go_sem, l0, l1, l2, l3, l4, l5, f0, f1, f2, f3, f4, f5]) rfl
        ⟨fun h => absurd h HLE.out, fun _ => (WBE.close (by omega) hW _ _ _ _ _ _)⟩

theorem ivMeet_v (S : Nat) {w : World} {g1 g2 g3 g4 : Bool} {p1 q1 p2 q2 p3 q3 p4 q4 : Option Addr} {n1 c1 m1 d1 n2 c2 m2 d2 n3 c3 m3 d3 n4 c4 m4 d4 : Nat} {A B X Y : Rat} (hA : IsV w g1 p1 n1 c1 q1 m1 d1 A) (hB : IsV w g2 p2 n2 c2 q2 m2 d2 B) (hX : IsV w g3 p3 n3 c3 q3 m3 d3 X) (hY : IsV w g4 p4 n4 c4 q4 m4 d4 Y) (hn1 : n1 ≤ S) (hm1 : m1 ≤ S) (hn2 : n2 ≤ S) (hm2 : m2 ≤ S) (hn3 : n3 ≤ S) (hm3 : m3 ≤ S) (hn4 : n4 ≤ S) (hm4 : m4 ≤ S) (hS : S ≤ 1000) (HLE : Hid ((maxR A [X] ≤ minR B [Y]))) :
    Calls Tryz.prog 17 #[.agg #[.bool g1, .slice p1 n1 c1, .slice q1 m1 d1, .bool g2, .slice p2 n2 c2, .slice q2 m2 d2], .agg #[.bool g3, .slice p3 n3 c3, .slice q3 m3 d3, .bool g4, .slice p4 n4 c4, .slice q4 m4 d4]] w (WBPost w (maxR A [X]) (minR B [Y]) S) :=
  (ivMeet_any S hA hB hX hY hn1 hm1 hn2 hm2 hn3 hm3 hn4 hm4 hS).mono fun e w' h => h.1 HLE.out

theorem ivMeet_e (S : Nat) {w : World} {g1 g2 g3 g4 : Bool} {p1 q1 p2 q2 p3 q3 p4 q4 : Option Addr} {n1 c1 m1 d1 n2 c2 m2 d2 n3 c3 m3 d3 n4 c4 m4 d4 : Nat} {A B X Y : Rat} (hA : IsV w g1 p1 n1 c1 q1 m1 d1 A) (hB : IsV w g2 p2 n2 c2 q2 m2 d2 B) (hX : IsV w g3 p3 n3 c3 q3 m3 d3 X) (hY : IsV w g4 p4 n4 c4 q4 m4 d4 Y) (hn1 : n1 ≤ S) (hm1 : m1 ≤ S) (hn2 : n2 ≤ S) (hm2 : m2 ≤ S) (hn3 : n3 ≤ S) (hm3 : m3 ≤ S) (hn4 : n4 ≤ S) (hm4 : m4 ≤ S) (hS : S ≤ 1000) (HLE : Hid (¬ (maxR A [X] ≤ minR B [Y]))) :
    Calls Tryz.prog 17 #[.agg #[.bool g1, .slice p1 n1 c1, .slice q1 m1 d1, .bool g2, .slice p2 n2 c2, .slice q2 m2 d2], .agg #[.bool g3, .slice p3 n3 c3, .slice q3 m3 d3, .bool g4, .slice p4 n4 c4, .slice q4 m4 d4]] w (WBE w) :=
  (ivMeet_any S hA hB hX hY hn1 hm1 hn2 hm2 hn3 hm3 hn4 hm4 hS).mono fun e w' h => h.2 HLE.out
end Go.Proofs.YtocfklanejonkaaGreatDoor

set_option linter.unusedVariables false
set_option linter.unusedSimpArgs false
namespace Go.Proofs.YtocfklanejonkaaGreatDoor
open Go.RowKit Nm
open Go

/-- a new struct of the type api.Interval -/
def BxI (w0 w : World) (v : Value) : Prop := ∃ u : Nat, v = .pointer (some ⟨u, 0, none⟩) ∧ w0.heap.size ≤ u ∧ IBoxAt w u
theorem BxI.keep {w0 w w' : World} {v : Value} (h : BxI w0 w v) (hg : w.grownBy w' none) : BxI w0 w' v :=
  let ⟨u, e, hu, r⟩ := h; ⟨u, e, hu, r.grown hg⟩

set_option maxRecDepth 100000 in
set_option maxHeartbeats 8000000 in
theorem rIvMeet_any (S : Nat) {w : World} {g1 g2 g3 g4 : Bool} {p1 q1 p2 q2 p3 q3 p4 q4 : Option Addr} {n1 c1 m1 d1 n2 c2 m2 d2 n3 c3 m3 d3 n4 c4 m4 d4 : Nat} {A B X Y : Rat} (hA : IsV w g1 p1 n1 c1 q1 m1 d1 A) (hB : IsV w g2 p2 n2 c2 q2 m2 d2 B) (hX : IsV w g3 p3 n3 c3 q3 m3 d3 X) (hY : IsV w g4 p4 n4 c4 q4 m4 d4 Y) (hn1 : n1 ≤ S) (hm1 : m1 ≤ S) (hn2 : n2 ≤ S) (hm2 : m2 ≤ S) (hn3 : n3 ≤ S) (hm3 : m3 ≤ S) (hn4 : n4 ≤ S) (hm4 : m4 ≤ S) (hS : S ≤ 1000) :
    Calls Tryz.prog 18 #[.agg #[.bool g1, .slice p1 n1 c1, .slice q1 m1 d1, .bool g2, .slice p2 n2 c2, .slice q2 m2 d2], .agg #[.bool g3, .slice p3 n3 c3, .slice q3 m3 d3, .bool g4, .slice p4 n4 c4, .slice q4 m4 d4]] w (MtPost w (maxR A [X]) (minR B [Y]) S) := by
  have hW := (grown_trans (grown_trans (World.grownBy_alloc w (.cells #[.bool g1, .slice p1 n1 c1, .slice q1 m1 d1, .bool g2, .slice p2 n2 c2, .slice q2 m2 d2] 31) none) (World.grownBy_alloc _ (.cells #[.bool g3, .slice p3 n3 c3, .slice q3 m3 d3, .bool g4, .slice p4 n4 c4, .slice q4 m4 d4] 31) none)) (World.grownBy_alloc _ (.cells #[.bool false, .slice none 0 0, .slice none 0 0, .bool false, .slice none 0 0, .slice none 0 0] 31) none))
  have bx0 : (((w.alloc (.cells #[.bool g1, .slice p1 n1 c1, .slice q1 m1 d1, .bool g2, .slice p2 n2 c2, .slice q2 m2 d2] 31)).alloc (.cells #[.bool g3, .slice p3 n3 c3, .slice q3 m3 d3, .bool g4, .slice p4 n4 c4, .slice q4 m4 d4] 31)).alloc (.cells #[.bool false, .slice none 0 0, .slice none 0 0, .bool false, .slice none 0 0, .slice none 0 0] 31)).heap[w.heap.size]? = some (.cells #[.bool g1, .slice p1 n1 c1, .slice q1 m1 d1, .bool g2, .slice p2 n2 c2, .slice q2 m2 d2] 31 (0, 0)) := by
    have h0 := heap_alloc_new w (.cells #[.bool g1, .slice p1 n1 c1, .slice q1 m1 d1, .bool g2, .slice p2 n2 c2, .slice q2 m2 d2] 31)
    have h1 := (grown_trans (World.grownBy_alloc (w.alloc (.cells #[.bool g1, .slice p1 n1 c1, .slice q1 m1 d1, .bool g2, .slice p2 n2 c2, .slice q2 m2 d2] 31)) (.cells #[.bool g3, .slice p3 n3 c3, .slice q3 m3 d3, .bool g4, .slice p4 n4 c4, .slice q4 m4 d4] 31) none) (World.grownBy_alloc _ (.cells #[.bool false, .slice none 0 0, .slice none 0 0, .bool false, .slice none 0 0, .slice none 0 0] 31) none)).block _ (lt_of_block h0) (by simp)
    have h2 := h1.trans h0
    simpa using h2
  have bx1 : (((w.alloc (.cells #[.bool g1, .slice p1 n1 c1, .slice q1 m1 d1, .bool g2, .slice p2 n2 c2, .slice q2 m2 d2] 31)).alloc (.cells #[.bool g3, .slice p3 n3 c3, .slice q3 m3 d3, .bool g4, .slice p4 n4 c4, .slice q4 m4 d4] 31)).alloc (.cells #[.bool false, .slice none 0 0, .slice none 0 0, .bool false, .slice none 0 0, .slice none 0 0] 31)).heap[w.heap.size + 1]? = some (.cells #[.bool g3, .slice p3 n3 c3, .slice q3 m3 d3, .bool g4, .slice p4 n4 c4, .slice q4 m4 d4] 31 (0, 0)) := by
    have h0 := heap_alloc_new (w.alloc (.cells #[.bool g1, .slice p1 n1 c1, .slice q1 m1 d1, .bool g2, .slice p2 n2 c2, .slice q2 m2 d2] 31)) (.cells #[.bool g3, .slice p3 n3 c3, .slice q3 m3 d3, .bool g4, .slice p4 n4 c4, .slice q4 m4 d4] 31)
    have h1 := (World.grownBy_alloc ((w.alloc (.cells #[.bool g1, .slice p1 n1 c1, .slice q1 m1 d1, .bool g2, .slice p2 n2 c2, .slice q2 m2 d2] 31)).alloc (.cells #[.bool g3, .slice p3 n3 c3, .slice q3 m3 d3, .bool g4, .slice p4 n4 c4, .slice q4 m4 d4] 31)) (.cells #[.bool false, .slice none 0 0, .slice none 0 0, .bool false, .slice none 0 0, .slice none 0 0] 31) none).block _ (lt_of_block h0) (by simp)
    have h2 := h1.trans h0
    simpa using h2
  have bx2 : (((w.alloc (.cells #[.bool g1, .slice p1 n1 c1, .slice q1 m1 d1, .bool g2, .slice p2 n2 c2, .slice q2 m2 d2] 31)).alloc (.cells #[.bool g3, .slice p3 n3 c3, .slice q3 m3 d3, .bool g4, .slice p4 n4 c4, .slice q4 m4 d4] 31)).alloc (.cells #[.bool false, .slice none 0 0, .slice none 0 0, .bool false, .slice none 0 0, .slice none 0 0] 31)).heap[w.heap.size + 1 + 1]? = some (.cells #[.bool false, .slice none 0 0, .slice none 0 0, .bool false, .slice none 0 0, .slice none 0 0] 31 (0, 0)) := by
    have := heap_alloc_new ((w.alloc (.cells #[.bool g1, .slice p1 n1 c1, .slice q1 m1 d1, .bool g2, .slice p2 n2 c2, .slice q2 m2 d2] 31)).alloc (.cells #[.bool g3, .slice p3 n3 c3, .slice q3 m3 d3, .bool g4, .slice p4 n4 c4, .slice q4 m4 d4] 31)) (.cells #[.bool false, .slice none 0 0, .slice none 0 0, .bool false, .slice none 0 0, .slice none 0 0] 31)
    simpa using this
  replace hA := hA.keep hW; replace hB := hB.keep hW; replace hX := hX.keep hW; replace hY := hY.keep hW
  obtain ⟨⟨x0, x1, x2, x3, x4, x5⟩, _⟩ := ivbox_facts bx0
  obtain ⟨⟨y0, y1, y2, y3, y4, y5⟩, _⟩ := ivbox_facts bx1
  clear bx0 bx1
  go_enter Tryz.func18, Tryz.ntmps18
  go_upto_region 1 with fail
  generalize (((w.alloc (.cells #[.bool g1, .slice p1 n1 c1, .slice q1 m1 d1, .bool g2, .slice p2 n2 c2, .slice q2 m2 d2] 31)).alloc (.cells #[.bool g3, .slice p3 n3 c3, .slice q3 m3 d3, .bool g4, .slice p4 n4 c4, .slice q4 m4 d4] 31)).alloc (.cells #[.bool false, .slice none 0 0, .slice none 0 0, .bool false, .slice none 0 0, .slice none 0 0] 31)) = w0 at *
  have hlt0 := lt_of_block bx2
  have HC1 := hid (fun W G (hl : RVs W G [⟨g1, p1, n1, c1, q1, m1, d1, A⟩, ⟨g3, p3, n3, c3, q3, m3, d3, X⟩]) (hG : G < W.heap.size) => rGreatest_v (cp := 2) S ⟨g1, p1, n1, c1, q1, m1, d1, A⟩ [⟨g3, p3, n3, c3, q3, m3, d3, X⟩] 2 rfl hl hG (two_sz ⟨hn1, hm1⟩ ⟨hn3, hm3⟩) (by omega) (by omega))
  have HC2 := hid (fun W G (hl : RVs W G [⟨g2, p2, n2, c2, q2, m2, d2, B⟩, ⟨g4, p4, n4, c4, q4, m4, d4, Y⟩]) (hG : G < W.heap.size) => rLeast_v (cp := 2) S ⟨g2, p2, n2, c2, q2, m2, d2, B⟩ [⟨g4, p4, n4, c4, q4, m4, d4, Y⟩] 2 rfl hl hG (two_sz ⟨hn2, hm2⟩ ⟨hn4, hm4⟩) (by omega) (by omega))
  unfold VPost at HC1 HC2
  simp only [List.map_cons, List.map_nil] at HC1 HC2
  have HA := hid hA; have HB := hid hB; have HX := hid hX; have HY := hid hY
  go_cut [6] from 7 to 19 (fun s6 wx => IOne (maxR A [X]) (minR B [Y]) S w0 s6 wx)
  case first =>
    refine wp_region_noPanic ?_
    refine wp_region_held_drew (S := fun w' => w'.cell? ⟨w.heap.size, 0, none⟩ = some (.bool g1) ∧ w'.cell? ⟨w.heap.size, 1, none⟩ = some (.slice p1 n1 c1) ∧ w'.cell? ⟨w.heap.size, 2, none⟩ = some (.slice q1 m1 d1) ∧ w'.cell? ⟨w.heap.size, 3, none⟩ = some (.bool g2) ∧ w'.cell? ⟨w.heap.size, 4, none⟩ = some (.slice p2 n2 c2) ∧ w'.cell? ⟨w.heap.size, 5, none⟩ = some (.slice q2 m2 d2) ∧ w'.cell? ⟨w.heap.size + 1, 0, none⟩ = some (.bool g3) ∧ w'.cell? ⟨w.heap.size + 1, 1, none⟩ = some (.slice p3 n3 c3) ∧ w'.cell? ⟨w.heap.size + 1, 2, none⟩ = some (.slice q3 m3 d3) ∧ w'.cell? ⟨w.heap.size + 1, 3, none⟩ = some (.bool g4) ∧ w'.cell? ⟨w.heap.size + 1, 4, none⟩ = some (.slice p4 n4 c4) ∧ w'.cell? ⟨w.heap.size + 1, 5, none⟩ = some (.slice q4 m4 d4)) (by kernel_rfl) ?_ (fun hHeld => ?_)
    · ((try go_split_ands) <;> (repeat' apply And.intro) <;> (repeat (first | (with_reducible assumption) | (with_reducible refine (grown_setCell _ _ _).cell ?_ (by simp; omega)) | (with_reducible refine (World.grownBy_alloc _ _ none).cell ?_ (by simp)) | (with_reducible refine (grown_drew _ none).cell ?_ (by simp)))))
    (refine wpAnyH_take (i := 0) (oi := Oper.mk _ _ _ _ _ _) (v := ?_) rfl (by kernel_rfl) (by kernel_rfl) (by kernel_rfl) (fun _ _ _ h => h) (Or.inl ⟨by kernel_rfl, ?_⟩) (by assumption) ?_; rotate_left 1; focus (intro w hSw; (try dsimp only at hSw); go_simp; (try (with_reducible rfl)); done); (try simp only [Act.put, List.setIfInBounds_toArray, List.set_cons_zero, List.set_cons_succ]))
    (refine wpAnyH_take (i := 1) (oi := Oper.mk _ _ _ _ _ _) (v := ?_) rfl (by kernel_rfl) (by kernel_rfl) (by kernel_rfl) (fun _ _ _ h => h) (Or.inl ⟨by kernel_rfl, ?_⟩) (by assumption) ?_; rotate_left 1; focus (intro w hSw; (try dsimp only at hSw); go_simp; (try (with_reducible rfl)); done); (try simp only [Act.put, List.setIfInBounds_toArray, List.set_cons_zero, List.set_cons_succ]))
    (refine wpAnyH_take (i := 2) (oi := Oper.mk _ _ _ _ _ _) (v := ?_) rfl (by kernel_rfl) (by kernel_rfl) (by kernel_rfl) (fun _ _ _ h => h) (Or.inl ⟨by kernel_rfl, ?_⟩) (by assumption) ?_; rotate_left 1; focus (intro w hSw; (try dsimp only at hSw); go_simp; (try (with_reducible rfl)); done); (try simp only [Act.put, List.setIfInBounds_toArray, List.set_cons_zero, List.set_cons_succ]))
    (refine wpAnyH_take (i := 3) (oi := Oper.mk _ _ _ _ _ _) (v := ?_) rfl (by kernel_rfl) (by kernel_rfl) (by kernel_rfl) (fun _ _ _ h => h) (Or.inl ⟨by kernel_rfl, ?_⟩) (by assumption) ?_; rotate_left 1; focus (intro w hSw; (try dsimp only at hSw); go_simp; (try (with_reducible rfl)); done); (try simp only [Act.put, List.setIfInBounds_toArray, List.set_cons_zero, List.set_cons_succ]))
    (refine wpAnyH_take (i := 6) (oi := Oper.mk _ _ _ _ _ _) (v := ?_) rfl (by kernel_rfl) (by kernel_rfl) (by kernel_rfl) (fun _ _ _ h => h) (Or.inl ⟨by kernel_rfl, ?_⟩) (by assumption) ?_; rotate_left 1; focus (intro w hSw; (try dsimp only at hSw); go_simp; (try (with_reducible rfl)); done); (try simp only [Act.put, List.setIfInBounds_toArray, List.set_cons_zero, List.set_cons_succ]))
    (refine wpAnyH_take (i := 7) (oi := Oper.mk _ _ _ _ _ _) (v := ?_) rfl (by kernel_rfl) (by kernel_rfl) (by kernel_rfl) (fun _ _ _ h => h) (Or.inl ⟨by kernel_rfl, ?_⟩) (by assumption) ?_; rotate_left 1; focus (intro w hSw; (try dsimp only at hSw); go_simp; (try (with_reducible rfl)); done); (try simp only [Act.put, List.setIfInBounds_toArray, List.set_cons_zero, List.set_cons_succ]))
    (refine wpAnyH_take (i := 8) (oi := Oper.mk _ _ _ _ _ _) (v := ?_) rfl (by kernel_rfl) (by kernel_rfl) (by kernel_rfl) (fun _ _ _ h => h) (Or.inl ⟨by kernel_rfl, ?_⟩) (by assumption) ?_; rotate_left 1; focus (intro w hSw; (try dsimp only at hSw); go_simp; (try (with_reducible rfl)); done); (try simp only [Act.put, List.setIfInBounds_toArray, List.set_cons_zero, List.set_cons_succ]))
    (refine wpAnyH_take (i := 9) (oi := Oper.mk _ _ _ _ _ _) (v := ?_) rfl (by kernel_rfl) (by kernel_rfl) (by kernel_rfl) (fun _ _ _ h => h) (Or.inl ⟨by kernel_rfl, ?_⟩) (by assumption) ?_; rotate_left 1; focus (intro w hSw; (try dsimp only at hSw); go_simp; (try (with_reducible rfl)); done); (try simp only [Act.put, List.setIfInBounds_toArray, List.set_cons_zero, List.set_cons_succ]))
    refine wpAnyH_states (I := fun listed a wx => ∃ (l4 l5 lA lB l6 : Bool) (v11 v12 v17 v18 v6 : Value), listed = #[true, true, true, true, l4, l5, true, true, true, true, lA, lB, false, l6, false] ∧ a = ⟨#[.agg #[.bool g1, .slice p1 n1 c1, .slice q1 m1 d1, .bool g2, .slice p2 n2 c2, .slice q2 m2 d2], .agg #[.bool g3, .slice p3 n3 c3, .slice q3 m3 d3, .bool g4, .slice p4 n4 c4, .slice q4 m4 d4], .pointer (some ⟨w.heap.size, 0, none⟩), .pointer (some ⟨w.heap.size + 1, 0, none⟩), .pointer (some ⟨w.heap.size + 1 + 1, 0, none⟩), .bool false, v6, .pointer (some ⟨w.heap.size, 0, none⟩), .agg #[.bool g1, .slice p1 n1 c1, .slice q1 m1 d1], .pointer (some ⟨w.heap.size + 1, 0, none⟩), .agg #[.bool g3, .slice p3 n3 c3, .slice q3 m3 d3], v11, v12, .pointer (some ⟨w.heap.size, 3, none⟩), .agg #[.bool g2, .slice p2 n2 c2, .slice q2 m2 d2], .pointer (some ⟨w.heap.size + 1, 3, none⟩), .agg #[.bool g4, .slice p4 n4 c4, .slice q4 m4 d4], v17, v18, undef, undef, undef, undef, undef, undef, undef, undef, undef], []⟩ ∧ (wx.cell? ⟨w.heap.size, 0, none⟩ = some (.bool g1) ∧ wx.cell? ⟨w.heap.size, 1, none⟩ = some (.slice p1 n1 c1) ∧ wx.cell? ⟨w.heap.size, 2, none⟩ = some (.slice q1 m1 d1) ∧ wx.cell? ⟨w.heap.size, 3, none⟩ = some (.bool g2) ∧ wx.cell? ⟨w.heap.size, 4, none⟩ = some (.slice p2 n2 c2) ∧ wx.cell? ⟨w.heap.size, 5, none⟩ = some (.slice q2 m2 d2) ∧ wx.cell? ⟨w.heap.size + 1, 0, none⟩ = some (.bool g3) ∧ wx.cell? ⟨w.heap.size + 1, 1, none⟩ = some (.slice p3 n3 c3) ∧ wx.cell? ⟨w.heap.size + 1, 2, none⟩ = some (.slice q3 m3 d3) ∧ wx.cell? ⟨w.heap.size + 1, 3, none⟩ = some (.bool g4) ∧ wx.cell? ⟨w.heap.size + 1, 4, none⟩ = some (.slice p4 n4 c4) ∧ wx.cell? ⟨w.heap.size + 1, 5, none⟩ = some (.slice q4 m4 d4)) ∧ w0.grownBy wx none ∧ Hid ((l4 = true → l5 = false → SlF wx v11 2 [⟨g1, p1, n1, c1, q1, m1, d1, A⟩, ⟨g3, p3, n3, c3, q3, m3, d3, X⟩]) ∧ (l5 = true → l4 = true ∧ NmF wx v12 (maxR A [X]) S) ∧ (lA = true → lB = false → SlF wx v17 2 [⟨g2, p2, n2, c2, q2, m2, d2, B⟩, ⟨g4, p4, n4, c4, q4, m4, d4, Y⟩]) ∧ (lB = true → l5 = true ∧ lA = true ∧ NmF wx v18 (minR B [Y]) S) ∧ (l6 = true → BxI w0 wx v6))) ?_ _ _ _ _ (by decide +kernel) ?_
    rotate_left
    · refine ⟨false, false, false, false, false, undef, undef, undef, undef, undef, rfl, rfl, hHeld, grown_drew _ _, hid ?_⟩
      refine ⟨fun h => ?_, fun h => ?_, fun h => ?_, fun h => ?_, fun h => ?_⟩ <;> cases h
    clear hHeld x0 x1 x2 x3 x4 x5 y0 y1 y2 y3 y4 y5 hA hB hX hY bx2
    rintro fuel listed a wx ⟨l4, l5, lA, lB, l6, v11, v12, v17, v18, v6, rfl, rfl, hS, hg, hF⟩ hc
    have HS2 := hid (fun W (h : wx.grownBy W none) => (⟨h.cell hS.1 (by simp), h.cell hS.2.1 (by simp), h.cell hS.2.2.1 (by simp), h.cell hS.2.2.2.1 (by simp), h.cell hS.2.2.2.2.1 (by simp), h.cell hS.2.2.2.2.2.1 (by simp), h.cell hS.2.2.2.2.2.2.1 (by simp), h.cell hS.2.2.2.2.2.2.2.1 (by simp), h.cell hS.2.2.2.2.2.2.2.2.1 (by simp), h.cell hS.2.2.2.2.2.2.2.2.2.1 (by simp), h.cell hS.2.2.2.2.2.2.2.2.2.2.1 (by simp), h.cell hS.2.2.2.2.2.2.2.2.2.2.2 (by simp)⟩ : W.cell? ⟨w.heap.size, 0, none⟩ = some (.bool g1) ∧ W.cell? ⟨w.heap.size, 1, none⟩ = some (.slice p1 n1 c1) ∧ W.cell? ⟨w.heap.size, 2, none⟩ = some (.slice q1 m1 d1) ∧ W.cell? ⟨w.heap.size, 3, none⟩ = some (.bool g2) ∧ W.cell? ⟨w.heap.size, 4, none⟩ = some (.slice p2 n2 c2) ∧ W.cell? ⟨w.heap.size, 5, none⟩ = some (.slice q2 m2 d2) ∧ W.cell? ⟨w.heap.size + 1, 0, none⟩ = some (.bool g3) ∧ W.cell? ⟨w.heap.size + 1, 1, none⟩ = some (.slice p3 n3 c3) ∧ W.cell? ⟨w.heap.size + 1, 2, none⟩ = some (.slice q3 m3 d3) ∧ W.cell? ⟨w.heap.size + 1, 3, none⟩ = some (.bool g4) ∧ W.cell? ⟨w.heap.size + 1, 4, none⟩ = some (.slice p4 n4 c4) ∧ W.cell? ⟨w.heap.size + 1, 5, none⟩ = some (.slice q4 m4 d4)))
    have HSx := hid hS
    clear hS
    cases lB
    · refine Or.inr ⟨?_, ?_⟩
      · clear HS2 HSx hg hc
        obtain ⟨_, f5, _, fB, _⟩ := hF.out
        clear hF
        cases l4 <;> cases l5 <;> cases lA <;> cases l6 <;> decide +kernel
      · clear hc
        intro i hi
        obtain ⟨h1, oj, h2, h3⟩ := mem_ready.1 hi
        clear hi
        match i, h1, h2 with
        | 0, h1, h2 =>
          exact absurd (show true = false from h1) (by simp)
        | 1, h1, h2 =>
          exact absurd (show true = false from h1) (by simp)
        | 2, h1, h2 =>
          exact absurd (show true = false from h1) (by simp)
        | 3, h1, h2 =>
          exact absurd (show true = false from h1) (by simp)
        | 4, h1, h2 =>
          obtain rfl : l4 = false := h1
          cases h2
          have hF2 := hF.out
          obtain ⟨f4, f5, fA, fB, f6⟩ := hF2
          clear hF
          have hFF := hid (And.intro f4 (And.intro f5 (And.intro fA (And.intro fB f6))))
          clear f4 f5 fA fB f6 h3
          refine op_step (o := Oper.mk _ _ _ _ _ _) rfl (fun K hK => ?_)
          rw [if_pos (by rfl)]
          go_simp
          have hG := World.grownBy_alloc wx (.cells #[.bool g1, .slice p1 n1 c1, .slice q1 m1 d1, .bool g3, .slice p3 n3 c3, .slice q3 m3 d3] 27) none
          have hb := heap_alloc_new wx (.cells #[.bool g1, .slice p1 n1 c1, .slice q1 m1 d1, .bool g3, .slice p3 n3 c3, .slice q3 m3 d3] 27)
          obtain ⟨f4, f5, fA, fB, f6⟩ := hFF.out
          refine hK.out _ _ ⟨HS2.out _ hG, true, l5, lA, _, l6, _, v12, v17, v18, v6, rfl, rfl, HS2.out _ hG, grown_trans hg hG, hid ⟨fun _ _ => ⟨_, rfl, rvs2 (a := ⟨g1, p1, n1, c1, q1, m1, d1, A⟩) (b := ⟨g3, p3, n3, c3, q3, m3, d3, X⟩) hb (HA.out.keep (grown_trans hg hG)) (HX.out.keep (grown_trans hg hG)), lt_of_block hb⟩, fun a => ⟨rfl, (f5 a).2.keep hG⟩, fun a b => (fA a (by first | exact b | trivial)).keep hG, fun a => (by cases a), fun a => (f6 a).keep hG⟩⟩
        | 5, h1, h2 =>
          obtain rfl : l5 = false := h1
          cases h2
          have hF2 := hF.out
          obtain ⟨f4, f5, fA, fB, f6⟩ := hF2
          clear hF
          have hd : l4 = true := h3 { on := 4, ground := .data } (by simp) rfl
          obtain ⟨G, rfl, hl, hGl⟩ := f4 hd rfl
          have hFF := hid (And.intro f4 (And.intro f5 (And.intro fA (And.intro fB f6))))
          clear f4 f5 fA fB f6 h3
          refine op_step (o := Oper.mk _ _ _ _ _ _) rfl (fun K hK => ?_)
          rw [if_pos (by rfl)]
          go_simp
          refine (HC1.out wx G hl hGl).mono ?_
          rintro ee w1 ⟨g, p, n, c, q, m, d, rfl, hM, hn, hm, hG⟩
          (try go_wp2_with fail)
          obtain ⟨f4, f5, fA, fB, f6⟩ := hFF.out
          refine hK.out _ _ ⟨HS2.out _ hG, l4, true, lA, _, l6, _, _, v17, v18, v6, rfl, rfl, HS2.out _ hG, grown_trans hg hG, hid ⟨fun _ h => (by cases h), fun _ => ⟨hd, _, _, _, _, _, _, _, rfl, hM, hn, hm⟩, fun a b => (fA a (by first | exact b | trivial)).keep hG, fun a => (by cases a), fun a => (f6 a).keep hG⟩⟩
        | 6, h1, h2 =>
          exact absurd (show true = false from h1) (by simp)
        | 7, h1, h2 =>
          exact absurd (show true = false from h1) (by simp)
        | 8, h1, h2 =>
          exact absurd (show true = false from h1) (by simp)
        | 9, h1, h2 =>
          exact absurd (show true = false from h1) (by simp)
        | 10, h1, h2 =>
          obtain rfl : lA = false := h1
          cases h2
          have hF2 := hF.out
          obtain ⟨f4, f5, fA, fB, f6⟩ := hF2
          clear hF
          have hFF := hid (And.intro f4 (And.intro f5 (And.intro fA (And.intro fB f6))))
          clear f4 f5 fA fB f6 h3
          refine op_step (o := Oper.mk _ _ _ _ _ _) rfl (fun K hK => ?_)
          rw [if_pos (by rfl)]
          go_simp
          have hG := World.grownBy_alloc wx (.cells #[.bool g2, .slice p2 n2 c2, .slice q2 m2 d2, .bool g4, .slice p4 n4 c4, .slice q4 m4 d4] 27) none
          have hb := heap_alloc_new wx (.cells #[.bool g2, .slice p2 n2 c2, .slice q2 m2 d2, .bool g4, .slice p4 n4 c4, .slice q4 m4 d4] 27)
          obtain ⟨f4, f5, fA, fB, f6⟩ := hFF.out
          refine hK.out _ _ ⟨HS2.out _ hG, l4, l5, true, _, l6, v11, v12, _, v18, v6, rfl, rfl, HS2.out _ hG, grown_trans hg hG, hid ⟨fun a b => (f4 a b).keep hG, fun a => ⟨(f5 a).1, (f5 a).2.keep hG⟩, fun _ _ => ⟨_, rfl, rvs2 (a := ⟨g2, p2, n2, c2, q2, m2, d2, B⟩) (b := ⟨g4, p4, n4, c4, q4, m4, d4, Y⟩) hb (HB.out.keep (grown_trans hg hG)) (HY.out.keep (grown_trans hg hG)), lt_of_block hb⟩, fun a => (by cases a), fun a => (f6 a).keep hG⟩⟩
        | 11, h1, h2 =>
          skip
          cases h2
          have hF2 := hF.out
          obtain ⟨f4, f5, fA, fB, f6⟩ := hF2
          clear hF
          have hd : lA = true := h3 { on := 10, ground := .data } (by simp) rfl
          have hd5 : l5 = true := h3 { on := 5, ground := .chain } (by simp) rfl
          obtain ⟨G, rfl, hl, hGl⟩ := fA hd rfl
          have hFF := hid (And.intro f4 (And.intro f5 (And.intro fA (And.intro fB f6))))
          clear f4 f5 fA fB f6 h3
          refine op_step (o := Oper.mk _ _ _ _ _ _) rfl (fun K hK => ?_)
          rw [if_pos (by rfl)]
          go_simp
          refine (HC2.out wx G hl hGl).mono ?_
          rintro ee w1 ⟨g, p, n, c, q, m, d, rfl, hM, hn, hm, hG⟩
          (try go_wp2_with fail)
          obtain ⟨f4, f5, fA, fB, f6⟩ := hFF.out
          refine hK.out _ _ ⟨HS2.out _ hG, l4, l5, lA, true, l6, v11, v12, _, _, v6, rfl, rfl, HS2.out _ hG, grown_trans hg hG, hid ⟨fun a b => (f4 a b).keep hG, fun a => ⟨(f5 a).1, (f5 a).2.keep hG⟩, fun _ h => (by cases h), fun _ => ⟨hd5, hd, _, _, _, _, _, _, _, rfl, hM, hn, hm⟩, fun a => (f6 a).keep hG⟩⟩
        | 12, h1, h2 =>
          cases h2
          exact absurd (show false = true from h3 { on := 11, ground := .data } (by simp) rfl) (by simp)
        | 13, h1, h2 =>
          obtain rfl : l6 = false := h1
          cases h2
          have hF2 := hF.out
          obtain ⟨f4, f5, fA, fB, f6⟩ := hF2
          clear hF
          have hFF := hid (And.intro f4 (And.intro f5 (And.intro fA (And.intro fB f6))))
          clear f4 f5 fA fB f6 h3
          refine op_step (o := Oper.mk _ _ _ _ _ _) rfl (fun K hK => ?_)
          rw [if_pos (by rfl)]
          go_simp
          have hG := World.grownBy_alloc wx (.cells #[.bool false, .slice none 0 0, .slice none 0 0, .bool false, .slice none 0 0, .slice none 0 0] 31) none
          obtain ⟨f4, f5, fA, fB, f6⟩ := hFF.out
          refine hK.out _ _ ⟨HS2.out _ hG, l4, l5, lA, _, true, v11, v12, v17, v18, _, rfl, rfl, HS2.out _ hG, grown_trans hg hG, hid ⟨fun a b => (f4 a b).keep hG, fun a => ⟨(f5 a).1, (f5 a).2.keep hG⟩, fun a b => (fA a (by first | exact b | trivial)).keep hG, fun a => (by cases a), fun _ => ⟨_, rfl, hg.size, IBoxAt.new wx⟩⟩⟩
        | 14, h1, h2 =>
          cases h2
          exact absurd (show false = true from h3 { on := 12, ground := .data } (by simp) rfl) (by simp)
        | n + 15, h1, _ => exact absurd ((getD_big (Nat.le_add_left 15 n)).symm.trans h1) (by simp)
    · refine Or.inl ?_
      obtain ⟨_, f5, _, fB, f6⟩ := hF.out
      obtain ⟨rfl, rfl, g6, p6, n6, c6, q6, m6, d6, rfl, hQ, hn6, hm6⟩ := fB rfl
      obtain ⟨rfl, g5, p5, n5, c5, q5, m5, d5, rfl, hP, hn5, hm5⟩ := f5 rfl
      have HP := hid hP; have HQ := hid hQ
      clear hF f5 fB hP hQ
      have hS := HSx.out
      cases l6
      · have h2 : 3 ≤ fuel := hc
        obtain ⟨f, rfl⟩ : ∃ f, fuel = f + 1 + 1 + 1 := ⟨fuel - 3, by omega⟩
        clear hc h2 f6 HS2
        (refine wpAnyH_take (i := 12) (oi := Oper.mk _ _ _ _ _ _) (v := ?_) rfl (by kernel_rfl) (by kernel_rfl) (by kernel_rfl) (fun _ _ _ h => h) (Or.inl ⟨by kernel_rfl, ?_⟩) (by assumption) ?_; rotate_left 1; focus (intro w hSw; (try dsimp only at hSw); go_simp; (try (with_reducible rfl)); done); (try simp only [Act.put, List.setIfInBounds_toArray, List.set_cons_zero, List.set_cons_succ]))
        refine wpAnyH_ready (rs := [13]) (by kernel_rfl) (by simp) ?_
        refine AllReadyH.cons (o := Oper.mk _ _ _ _ _ _) rfl (fun K hK => ?_) AllReadyH.nil
        rw [if_pos (by rfl)]
        go_simp
        refine hK.out _ _ ?_ (fun hNew => ?_)
        · (try dsimp only)
          ((try go_split_ands) <;> (repeat' apply And.intro) <;> (repeat (first | (with_reducible assumption) | (with_reducible refine (grown_setCell _ _ _).cell ?_ (by simp; omega)) | (with_reducible refine (World.grownBy_alloc _ _ none).cell ?_ (by simp)) | (with_reducible refine (grown_drew _ none).cell ?_ (by simp)))))
        clear hK K
        (try simp only [Act.put, List.setIfInBounds_toArray, List.set_cons_zero, List.set_cons_succ])
        refine wpAnyH_ready (rs := [14]) (by kernel_rfl) (by simp) ?_
        refine AllReadyH.cons (o := Oper.mk _ _ _ _ _ _) rfl (fun K hK => ?_) AllReadyH.nil
        rw [if_pos (by rfl)]
        go_simp
        refine hK.out _ _ ?_ (fun hNew2 => ?_)
        · (try dsimp only)
          ((try go_split_ands) <;> (repeat' apply And.intro) <;> (repeat (first | (with_reducible assumption) | (with_reducible refine (grown_setCell _ _ _).cell ?_ (by simp; omega)) | (with_reducible refine (World.grownBy_alloc _ _ none).cell ?_ (by simp)) | (with_reducible refine (grown_drew _ none).cell ?_ (by simp)))))
        clear hK K
        (try simp only [Act.put, List.setIfInBounds_toArray, List.set_cons_zero, List.set_cons_succ])
        refine wpAnyH_done (by kernel_rfl) ?_ _
        refine NoPanic.normal ?_
        go_wp2_with fail
        go_meet
        exact ione_alloc HP.out HQ.out ⟨hn5, hm5⟩ ⟨hn6, hm6⟩ hg
      · have h2 : 2 ≤ fuel := hc
        obtain ⟨f, rfl⟩ : ∃ f, fuel = f + 1 + 1 := ⟨fuel - 2, by omega⟩
        obtain ⟨u, rfl, hu, bu⟩ := f6 rfl
        have HBu := hid bu
        clear hc h2 HS2
        (refine wpAnyH_take (i := 12) (oi := Oper.mk _ _ _ _ _ _) (v := ?_) rfl (by kernel_rfl) (by kernel_rfl) (by kernel_rfl) (fun _ _ _ h => h) (Or.inl ⟨by kernel_rfl, ?_⟩) (by assumption) ?_; rotate_left 1; focus (intro w hSw; (try dsimp only at hSw); go_simp; (try (with_reducible rfl)); done); (try simp only [Act.put, List.setIfInBounds_toArray, List.set_cons_zero, List.set_cons_succ]))
        obtain ⟨⟨z0, z1, z2, z3, z4, z5⟩, ⟨fz0, fz1, fz2, fz3, fz4, fz5⟩, z6⟩ := HBu.out.facts
        refine wpAnyH_ready (rs := [14]) (by kernel_rfl) (by simp) ?_
        refine AllReadyH.cons (o := Oper.mk _ _ _ _ _ _) rfl (fun K hK => ?_) AllReadyH.nil
        rw [if_pos (by rfl)]
        go_simp
        refine hK.out _ _ ?_ (fun hNew => ?_)
        · (try dsimp only)
          ((try go_split_ands) <;> (repeat' apply And.intro) <;> (repeat (first | (with_reducible assumption) | (with_reducible refine (grown_setCell _ _ _).cell ?_ (by simp; omega)) | (with_reducible refine (World.grownBy_alloc _ _ none).cell ?_ (by simp)) | (with_reducible refine (grown_drew _ none).cell ?_ (by simp)))))
        clear hK K
        (try simp only [Act.put, List.setIfInBounds_toArray, List.set_cons_zero, List.set_cons_succ])
        refine wpAnyH_done (by kernel_rfl) ?_ _
        refine NoPanic.normal ?_
        go_wp2_with fail
        go_meet
        exact ione_set HP.out HQ.out ⟨hn5, hm5⟩ ⟨hn6, hm6⟩ hg HBu.out hu
  case rest =>
    obtain ⟨u, g5, g6, p5, q5, p6, q6, n5, c5, m5, d5, n6, c6, m6, d6, rfl, bu, hP, hQ, ⟨hn5, hm5⟩, ⟨hn6, hm6⟩, hu, hg⟩ := hcut
    clear HC1 HC2 HA HB HX HY hu
    replace hA := hA.keep hg; replace hB := hB.keep hg; replace hX := hX.keep hg; replace hY := hY.keep hg
    replace x0 := hg.cell x0 (by simp); replace x1 := hg.cell x1 (by simp); replace x2 := hg.cell x2 (by simp); replace x3 := hg.cell x3 (by simp)
    replace x4 := hg.cell x4 (by simp); replace x5 := hg.cell x5 (by simp); replace y0 := hg.cell y0 (by simp); replace y1 := hg.cell y1 (by simp)
    replace y2 := hg.cell y2 (by simp); replace y3 := hg.cell y3 (by simp); replace y4 := hg.cell y4 (by simp); replace y5 := hg.cell y5 (by simp)
    replace bx2 := (hg.block _ (lt_of_block bx2) (by simp)).trans bx2; replace hW := grown_trans hW hg
    clear hg
    obtain ⟨⟨t0, t1, t2, t3, t4, t5⟩, _⟩ := ivbox_facts bu
    go_wp2_with fail
    refine (rCmp3_v S hP.q hQ.q hn5 hm5 hn6 hm6 (by omega)).mono ?_
    rintro ee v1 ⟨rfl, hg⟩
    replace hA := hA.keep hg; replace hB := hB.keep hg; replace hX := hX.keep hg; replace hY := hY.keep hg
    replace hP := hP.keep hg; replace hQ := hQ.keep hg; replace x0 := hg.cell x0 (by simp); replace x1 := hg.cell x1 (by simp)
    replace x2 := hg.cell x2 (by simp); replace x3 := hg.cell x3 (by simp); replace x4 := hg.cell x4 (by simp); replace x5 := hg.cell x5 (by simp)
    replace y0 := hg.cell y0 (by simp); replace y1 := hg.cell y1 (by simp); replace y2 := hg.cell y2 (by simp); replace y3 := hg.cell y3 (by simp)
    replace y4 := hg.cell y4 (by simp); replace y5 := hg.cell y5 (by simp); replace t0 := hg.cell t0 (by simp); replace t1 := hg.cell t1 (by simp)
    replace t2 := hg.cell t2 (by simp); replace t3 := hg.cell t3 (by simp); replace t4 := hg.cell t4 (by simp); replace t5 := hg.cell t5 (by simp)
    replace bx2 := (hg.block _ (lt_of_block bx2) (by simp)).trans bx2; replace bu := (hg.block _ (lt_of_block bu) (by simp)).trans bu; replace hW := grown_trans hW hg
    clear hg
    by_cases hle : maxR A [X] ≤ minR B [Y]
    · have HLE := hid hle
      clear hle
      have hcc : ¬ (0 < cmpR (maxR A [X]) (minR B [Y])) := fun h => by have := cmpR_le HLE.out; omega
      have ff := ivbox_facts bx2; obtain ⟨⟨l0, l1, l2, l3, l4, l5⟩, f0, f1, f2, f3, f4, f5⟩ := ff
      go_wp2_with fail
      exact bodyPost_ret (v := .tuple #[.agg #[.bool g5, .slice p5 n5 c5, .slice q5 m5 d5, .bool g6, .slice p6 n6 c6, .slice q6 m6 d6], .bool true]) (by simp [results, Tryz.results18, go_sem, l0, l1, l2, l3, l4, l5, f0, f1, f2, f3, f4, f5]) rfl
        ⟨fun _ => (WPost.tupB (WPost.close bx2 (by omega) hW hP hQ ⟨hn5, hm5⟩ ⟨hn6, hm6⟩)), fun h => absurd HLE.out h⟩
    · have HLE := hid hle
      clear hle
      have hcc : 0 < cmpR (maxR A [X]) (minR B [Y]) := cmpR_pos HLE.out
      have ff := ivbox_facts bx2; obtain ⟨⟨l0, l1, l2, l3, l4, l5⟩, f0, f1, f2, f3, f4, f5⟩ := ff
      go_wp2_with fail
      exact bodyPost_ret (v := .tuple #[.agg #[.bool false, .slice none 0 0, .slice none 0 0, .bool false, .slice none 0 0, .slice none 0 0], .bool false]) (by simp [results, Tryz.results18, go_sem, l0, l1, l2, l3, l4, l5, f0, f1, f2, f3, f4, f5]) rfl
        ⟨fun h => absurd h HLE.out, fun _ => (WBE.close (by omega) hW _ _ _ _ _ _)⟩

theorem rIvMeet_v (S : Nat) {w : World} {g1 g2 g3 g4 : Bool} {p1 q1 p2 q2 p3 q3 p4 q4 : Option Addr} {n1 c1 m1 d1 n2 c2 m2 d2 n3 c3 m3 d3 n4 c4 m4 d4 : Nat} {A B X Y : Rat} (hA : IsV w g1 p1 n1 c1 q1 m1 d1 A) (hB : IsV w g2 p2 n2 c2 q2 m2 d2 B) (hX : IsV w g3 p3 n3 c3 q3 m3 d3 X) (hY : IsV w g4 p4 n4 c4 q4 m4 d4 Y) (hn1 : n1 ≤ S) (hm1 : m1 ≤ S) (hn2 : n2 ≤ S) (hm2 : m2 ≤ S) (hn3 : n3 ≤ S) (hm3 : m3 ≤ S) (hn4 : n4 ≤ S) (hm4 : m4 ≤ S) (hS : S ≤ 1000) (HLE : Hid ((maxR A [X] ≤ minR B [Y]))) :
    Calls Tryz.prog 18 #[.agg #[.bool g1, .slice p1 n1 c1, .slice q1 m1 d1, .bool g2, .slice p2 n2 c2, .slice q2 m2 d2], .agg #[.bool g3, .slice p3 n3 c3, .slice q3 m3 d3, .bool g4, .slice p4 n4 c4, .slice q4 m4 d4]] w (WBPost w (maxR A [X]) (minR B [Y]) S) :=
  (rIvMeet_any S hA hB hX hY hn1 hm1 hn2 hm2 hn3 hm3 hn4 hm4 hS).mono fun e w' h => h.1 HLE.out

theorem rIvMeet_e (S : Nat) {w : World} {g1 g2 g3 g4 : Bool} {p1 q1 p2 q2 p3 q3 p4 q4 : Option Addr} {n1 c1 m1 d1 n2 c2 m2 d2 n3 c3 m3 d3 n4 c4 m4 d4 : Nat} {A B X Y : Rat} (hA : IsV w g1 p1 n1 c1 q1 m1 d1 A) (hB : IsV w g2 p2 n2 c2 q2 m2 d2 B) (hX : IsV w g3 p3 n3 c3 q3 m3 d3 X) (hY : IsV w g4 p4 n4 c4 q4 m4 d4 Y) (hn1 : n1 ≤ S) (hm1 : m1 ≤ S) (hn2 : n2 ≤ S) (hm2 : m2 ≤ S) (hn3 : n3 ≤ S) (hm3 : m3 ≤ S) (hn4 : n4 ≤ S) (hm4 : m4 ≤ S) (hS : S ≤ 1000) (HLE : Hid (¬ (maxR A [X] ≤ minR B [Y]))) :
    Calls Tryz.prog 18 #[.agg #[.bool g1, .slice p1 n1 c1, .slice q1 m1 d1, .bool g2, .slice p2 n2 c2, .slice q2 m2 d2], .agg #[.bool g3, .slice p3 n3 c3, .slice q3 m3 d3, .bool g4, .slice p4 n4 c4, .slice q4 m4 d4]] w (WBE w) :=
  (rIvMeet_any S hA hB hX hY hn1 hm1 hn2 hm2 hn3 hm3 hn4 hm4 hS).mono fun e w' h => h.2 HLE.out
end Go.Proofs.YtocfklanejonkaaGreatDoor

set_option linter.unusedVariables false
set_option linter.unusedSimpArgs false
namespace Go.Proofs.YtocfklanejonkaaGreatDoor
open Go.RowKit Nm
open Go

theorem minR_le (l : List Rat) : ∀ (x y : Rat), y ∈ x :: l → minR x l ≤ y := by
  induction l with
  | nil => intro x y h; simp at h; subst h; exact Rat.le_refl
  | cons z l ih =>
    intro x y h
    show minR (if z < x then z else x) l ≤ y
    rcases List.mem_cons.1 h with rfl | h
    · refine Rat.le_trans (ih _ _ (List.mem_cons_self ..)) ?_
      split <;> grind
    · rcases List.mem_cons.1 h with rfl | h
      · refine Rat.le_trans (ih _ _ (List.mem_cons_self ..)) ?_
        split <;> grind
      · exact ih _ _ (List.mem_cons_of_mem _ h)
theorem minR_mem (l : List Rat) : ∀ (x : Rat), minR x l ∈ x :: l := by
  induction l with
  | nil => intro x; exact List.mem_cons_self ..
  | cons z l ih =>
    intro x
    show minR (if z < x then z else x) l ∈ x :: z :: l
    rcases List.mem_cons.1 (ih (if z < x then z else x)) with h | h
    · rw [h]
      split
      · exact List.mem_cons_of_mem _ (List.mem_cons_self ..)
      · exact List.mem_cons_self ..
    · exact List.mem_cons_of_mem _ (List.mem_cons_of_mem _ h)
theorem le_maxR (l : List Rat) : ∀ (x y : Rat), y ∈ x :: l → y ≤ maxR x l := by
  induction l with
  | nil => intro x y h; simp at h; subst h; exact Rat.le_refl
  | cons z l ih =>
    intro x y h
    show y ≤ maxR (if x < z then z else x) l
    rcases List.mem_cons.1 h with rfl | h
    · refine Rat.le_trans ?_ (ih _ _ (List.mem_cons_self ..))
      split <;> grind
    · rcases List.mem_cons.1 h with rfl | h
      · refine Rat.le_trans ?_ (ih _ _ (List.mem_cons_self ..))
        split <;> grind
      · exact ih _ _ (List.mem_cons_of_mem _ h)
theorem maxR_mem (l : List Rat) : ∀ (x : Rat), maxR x l ∈ x :: l := by
  induction l with
  | nil => intro x; exact List.mem_cons_self ..
  | cons z l ih =>
    intro x
    show maxR (if x < z then z else x) l ∈ x :: z :: l
    rcases List.mem_cons.1 (ih (if x < z then z else x)) with h | h
    · rw [h]
      split
      · exact List.mem_cons_of_mem _ (List.mem_cons_self ..)
      · exact List.mem_cons_self ..
    · exact List.mem_cons_of_mem _ (List.mem_cons_of_mem _ h)
theorem minR_same {x x' : Rat} {l l' : List Rat} (h : ∀ y, y ∈ x :: l ↔ y ∈ x' :: l') : minR x l = minR x' l' :=
  Rat.le_antisymm (minR_le _ _ _ ((h _).2 (minR_mem _ _))) (minR_le _ _ _ ((h _).1 (minR_mem _ _)))
theorem maxR_same {x x' : Rat} {l l' : List Rat} (h : ∀ y, y ∈ x :: l ↔ y ∈ x' :: l') : maxR x l = maxR x' l' :=
  Rat.le_antisymm (le_maxR _ _ _ ((h _).1 (maxR_mem _ _))) (le_maxR _ _ _ ((h _).2 (maxR_mem _ _)))
theorem swap4 (A B X Y y : Rat) : y ∈ A :: [X, B, Y] ↔ y ∈ A :: [B, X, Y] := by
  simp only [List.mem_cons, List.not_mem_nil, or_false]
  constructor
  · rintro (h | h | h | h)
    · exact Or.inl h
    · exact Or.inr (Or.inr (Or.inl h))
    · exact Or.inr (Or.inl h)
    · exact Or.inr (Or.inr (Or.inr h))
  · rintro (h | h | h | h)
    · exact Or.inl h
    · exact Or.inr (Or.inr (Or.inl h))
    · exact Or.inr (Or.inl h)
    · exact Or.inr (Or.inr (Or.inr h))

set_option maxRecDepth 20000 in
set_option maxHeartbeats 4000000 in
theorem ivHull_w (S : Nat) {w : World} {g1 g2 g3 g4 : Bool} {p1 q1 p2 q2 p3 q3 p4 q4 : Option Addr} {n1 c1 m1 d1 n2 c2 m2 d2 n3 c3 m3 d3 n4 c4 m4 d4 : Nat} {A B X Y : Rat} (hA : IsV w g1 p1 n1 c1 q1 m1 d1 A) (hB : IsV w g2 p2 n2 c2 q2 m2 d2 B) (hX : IsV w g3 p3 n3 c3 q3 m3 d3 X) (hY : IsV w g4 p4 n4 c4 q4 m4 d4 Y) (hn1 : n1 ≤ S) (hm1 : m1 ≤ S) (hn2 : n2 ≤ S) (hm2 : m2 ≤ S) (hn3 : n3 ≤ S) (hm3 : m3 ≤ S) (hn4 : n4 ≤ S) (hm4 : m4 ≤ S) (hS : S ≤ 1000) :
    Calls Tryz.prog 23 #[.agg #[.bool g1, .slice p1 n1 c1, .slice q1 m1 d1, .bool g2, .slice p2 n2 c2, .slice q2 m2 d2], .agg #[.bool g3, .slice p3 n3 c3, .slice q3 m3 d3, .bool g4, .slice p4 n4 c4, .slice q4 m4 d4]] w (WPost w (minR A [X, B, Y]) (maxR A [X, B, Y]) S) := by
  have hW := (grown_trans (grown_trans (World.grownBy_alloc w (.cells #[.bool g1, .slice p1 n1 c1, .slice q1 m1 d1, .bool g2, .slice p2 n2 c2, .slice q2 m2 d2] 31) none) (World.grownBy_alloc _ (.cells #[.bool g3, .slice p3 n3 c3, .slice q3 m3 d3, .bool g4, .slice p4 n4 c4, .slice q4 m4 d4] 31) none)) (World.grownBy_alloc _ (.cells #[.bool false, .slice none 0 0, .slice none 0 0, .bool false, .slice none 0 0, .slice none 0 0] 31) none))
  have bx0 : (((w.alloc (.cells #[.bool g1, .slice p1 n1 c1, .slice q1 m1 d1, .bool g2, .slice p2 n2 c2, .slice q2 m2 d2] 31)).alloc (.cells #[.bool g3, .slice p3 n3 c3, .slice q3 m3 d3, .bool g4, .slice p4 n4 c4, .slice q4 m4 d4] 31)).alloc (.cells #[.bool false, .slice none 0 0, .slice none 0 0, .bool false, .slice none 0 0, .slice none 0 0] 31)).heap[w.heap.size]? = some (.cells #[.bool g1, .slice p1 n1 c1, .slice q1 m1 d1, .bool g2, .slice p2 n2 c2, .slice q2 m2 d2] 31 (0, 0)) := by
    have h0 := heap_alloc_new w (.cells #[.bool g1, .slice p1 n1 c1, .slice q1 m1 d1, .bool g2, .slice p2 n2 c2, .slice q2 m2 d2] 31)
    have h1 := (grown_trans (World.grownBy_alloc (w.alloc (.cells #[.bool g1, .slice p1 n1 c1, .slice q1 m1 d1, .bool g2, .slice p2 n2 c2, .slice q2 m2 d2] 31)) (.cells #[.bool g3, .slice p3 n3 c3, .slice q3 m3 d3, .bool g4, .slice p4 n4 c4, .slice q4 m4 d4] 31) none) (World.grownBy_alloc _ (.cells #[.bool false, .slice none 0 0, .slice none 0 0, .bool false, .slice none 0 0, .slice none 0 0] 31) none)).block _ (lt_of_block h0) (by simp)
    have h2 := h1.trans h0
    simpa using h2
  have bx1 : (((w.alloc (.cells #[.bool g1, .slice p1 n1 c1, .slice q1 m1 d1, .bool g2, .slice p2 n2 c2, .slice q2 m2 d2] 31)).alloc (.cells #[.bool g3, .slice p3 n3 c3, .slice q3 m3 d3, .bool g4, .slice p4 n4 c4, .slice q4 m4 d4] 31)).alloc (.cells #[.bool false, .slice none 0 0, .slice none 0 0, .bool false, .slice none 0 0, .slice none 0 0] 31)).heap[w.heap.size + 1]? = some (.cells #[.bool g3, .slice p3 n3 c3, .slice q3 m3 d3, .bool g4, .slice p4 n4 c4, .slice q4 m4 d4] 31 (0, 0)) := by
    have h0 := heap_alloc_new (w.alloc (.cells #[.bool g1, .slice p1 n1 c1, .slice q1 m1 d1, .bool g2, .slice p2 n2 c2, .slice q2 m2 d2] 31)) (.cells #[.bool g3, .slice p3 n3 c3, .slice q3 m3 d3, .bool g4, .slice p4 n4 c4, .slice q4 m4 d4] 31)
    have h1 := (World.grownBy_alloc ((w.alloc (.cells #[.bool g1, .slice p1 n1 c1, .slice q1 m1 d1, .bool g2, .slice p2 n2 c2, .slice q2 m2 d2] 31)).alloc (.cells #[.bool g3, .slice p3 n3 c3, .slice q3 m3 d3, .bool g4, .slice p4 n4 c4, .slice q4 m4 d4] 31)) (.cells #[.bool false, .slice none 0 0, .slice none 0 0, .bool false, .slice none 0 0, .slice none 0 0] 31) none).block _ (lt_of_block h0) (by simp)
    have h2 := h1.trans h0
    simpa using h2
  have bx2 : (((w.alloc (.cells #[.bool g1, .slice p1 n1 c1, .slice q1 m1 d1, .bool g2, .slice p2 n2 c2, .slice q2 m2 d2] 31)).alloc (.cells #[.bool g3, .slice p3 n3 c3, .slice q3 m3 d3, .bool g4, .slice p4 n4 c4, .slice q4 m4 d4] 31)).alloc (.cells #[.bool false, .slice none 0 0, .slice none 0 0, .bool false, .slice none 0 0, .slice none 0 0] 31)).heap[w.heap.size + 1 + 1]? = some (.cells #[.bool false, .slice none 0 0, .slice none 0 0, .bool false, .slice none 0 0, .slice none 0 0] 31 (0, 0)) := by
    have := heap_alloc_new ((w.alloc (.cells #[.bool g1, .slice p1 n1 c1, .slice q1 m1 d1, .bool g2, .slice p2 n2 c2, .slice q2 m2 d2] 31)).alloc (.cells #[.bool g3, .slice p3 n3 c3, .slice q3 m3 d3, .bool g4, .slice p4 n4 c4, .slice q4 m4 d4] 31)) (.cells #[.bool false, .slice none 0 0, .slice none 0 0, .bool false, .slice none 0 0, .slice none 0 0] 31)
    simpa using this
  replace hA := hA.keep hW; replace hB := hB.keep hW; replace hX := hX.keep hW; replace hY := hY.keep hW
  obtain ⟨⟨x0, x1, x2, x3, x4, x5⟩, _⟩ := ivbox_facts bx0
  obtain ⟨⟨y0, y1, y2, y3, y4, y5⟩, _⟩ := ivbox_facts bx1
  clear bx0 bx1
  go_enter Tryz.func23, Tryz.ntmps23
  go_upto_region 1 with fail
  generalize (((w.alloc (.cells #[.bool g1, .slice p1 n1 c1, .slice q1 m1 d1, .bool g2, .slice p2 n2 c2, .slice q2 m2 d2] 31)).alloc (.cells #[.bool g3, .slice p3 n3 c3, .slice q3 m3 d3, .bool g4, .slice p4 n4 c4, .slice q4 m4 d4] 31)).alloc (.cells #[.bool false, .slice none 0 0, .slice none 0 0, .bool false, .slice none 0 0, .slice none 0 0] 31)) = w0 at *
  have hg := World.grownBy_alloc w0 (.cells #[.bool g3, .slice p3 n3 c3, .slice q3 m3 d3, .bool g2, .slice p2 n2 c2, .slice q2 m2 d2, .bool g4, .slice p4 n4 c4, .slice q4 m4 d4] 27) none
  have ba := heap_alloc_new w0 (.cells #[.bool g3, .slice p3 n3 c3, .slice q3 m3 d3, .bool g2, .slice p2 n2 c2, .slice q2 m2 d2, .bool g4, .slice p4 n4 c4, .slice q4 m4 d4] 27)
  replace hA := hA.keep hg; replace hB := hB.keep hg; replace hX := hX.keep hg; replace hY := hY.keep hg
  replace bx2 := (hg.block _ (lt_of_block bx2) (by simp)).trans bx2; replace hW := grown_trans hW hg
  clear hg
  have hl : RVs (w0.alloc (.cells #[.bool g3, .slice p3 n3 c3, .slice q3 m3 d3, .bool g2, .slice p2 n2 c2, .slice q2 m2 d2, .bool g4, .slice p4 n4 c4, .slice q4 m4 d4] 27)) w0.heap.size [⟨g3, p3, n3, c3, q3, m3, d3, X⟩, ⟨g2, p2, n2, c2, q2, m2, d2, B⟩, ⟨g4, p4, n4, c4, q4, m4, d4, Y⟩] := rvs3 ba hX hB hY
  have hGa := lt_of_block ba
  have HSZ := hid (show ∀ r ∈ ([⟨g3, p3, n3, c3, q3, m3, d3, X⟩, ⟨g2, p2, n2, c2, q2, m2, d2, B⟩, ⟨g4, p4, n4, c4, q4, m4, d4, Y⟩] : List RV), r.n ≤ S ∧ r.m ≤ S from three_sz ⟨hn3, hm3⟩ ⟨hn2, hm2⟩ ⟨hn4, hm4⟩)
  clear ba
  go_wp2_with fail
  refine (hull_v S [⟨g3, p3, n3, c3, q3, m3, d3, X⟩, ⟨g2, p2, n2, c2, q2, m2, d2, B⟩, ⟨g4, p4, n4, c4, q4, m4, d4, Y⟩] 3 rfl hA hl hGa HSZ.out hn1 hm1 (by omega) (by omega)).mono ?_
  rintro ee v9 ⟨g9, g10, p9, q9, p10, q10, n9, c9, m9, d9, n10, c10, m10, d10, rfl, hR, hS2, b1, b2, hg⟩
  replace bx2 := (hg.block _ (lt_of_block bx2) (by simp)).trans bx2; replace hW := grown_trans hW hg
  clear hg
  have ff := ivbox_facts bx2; obtain ⟨⟨l0, l1, l2, l3, l4, l5⟩, f0, f1, f2, f3, f4, f5⟩ := ff
  go_wp2_with fail
  exact bodyPost_ret (v := .agg #[.bool g9, .slice p9 n9 c9, .slice q9 m9 d9, .bool g10, .slice p10 n10 c10, .slice q10 m10 d10]) (by simp [results, Tryz.results23, go_sem, l0, l1, l2, l3, l4, l5, f0, f1, f2, f3, f4, f5]) rfl
    (WPost.close bx2 (by omega) hW hR hS2 b1 b2)

theorem ivHull_v (S : Nat) {w : World} {g1 g2 g3 g4 : Bool} {p1 q1 p2 q2 p3 q3 p4 q4 : Option Addr} {n1 c1 m1 d1 n2 c2 m2 d2 n3 c3 m3 d3 n4 c4 m4 d4 : Nat} {A B X Y : Rat} (hA : IsV w g1 p1 n1 c1 q1 m1 d1 A) (hB : IsV w g2 p2 n2 c2 q2 m2 d2 B) (hX : IsV w g3 p3 n3 c3 q3 m3 d3 X) (hY : IsV w g4 p4 n4 c4 q4 m4 d4 Y) (hn1 : n1 ≤ S) (hm1 : m1 ≤ S) (hn2 : n2 ≤ S) (hm2 : m2 ≤ S) (hn3 : n3 ≤ S) (hm3 : m3 ≤ S) (hn4 : n4 ≤ S) (hm4 : m4 ≤ S) (hS : S ≤ 1000) :
    Calls Tryz.prog 23 #[.agg #[.bool g1, .slice p1 n1 c1, .slice q1 m1 d1, .bool g2, .slice p2 n2 c2, .slice q2 m2 d2], .agg #[.bool g3, .slice p3 n3 c3, .slice q3 m3 d3, .bool g4, .slice p4 n4 c4, .slice q4 m4 d4]] w (WPost w (minR A [B, X, Y]) (maxR A [B, X, Y]) S) := by
  have := ivHull_w S hA hB hX hY hn1 hm1 hn2 hm2 hn3 hm3 hn4 hm4 hS
  rw [minR_same (swap4 A B X Y), maxR_same (swap4 A B X Y)] at this
  exact this

set_option maxRecDepth 20000 in
set_option maxHeartbeats 4000000 in
theorem rIvHull_v (S : Nat) {w : World} {g1 g2 g3 g4 : Bool} {p1 q1 p2 q2 p3 q3 p4 q4 : Option Addr} {n1 c1 m1 d1 n2 c2 m2 d2 n3 c3 m3 d3 n4 c4 m4 d4 : Nat} {A B X Y : Rat} (hA : IsV w g1 p1 n1 c1 q1 m1 d1 A) (hB : IsV w g2 p2 n2 c2 q2 m2 d2 B) (hX : IsV w g3 p3 n3 c3 q3 m3 d3 X) (hY : IsV w g4 p4 n4 c4 q4 m4 d4 Y) (hn1 : n1 ≤ S) (hm1 : m1 ≤ S) (hn2 : n2 ≤ S) (hm2 : m2 ≤ S) (hn3 : n3 ≤ S) (hm3 : m3 ≤ S) (hn4 : n4 ≤ S) (hm4 : m4 ≤ S) (hS : S ≤ 1000) :
    Calls Tryz.prog 24 #[.agg #[.bool g1, .slice p1 n1 c1, .slice q1 m1 d1, .bool g2, .slice p2 n2 c2, .slice q2 m2 d2], .agg #[.bool g3, .slice p3 n3 c3, .slice q3 m3 d3, .bool g4, .slice p4 n4 c4, .slice q4 m4 d4]] w (WPost w (minR A [B, X, Y]) (maxR A [B, X, Y]) S) := by
  have hW := (grown_trans (grown_trans (World.grownBy_alloc w (.cells #[.bool g1, .slice p1 n1 c1, .slice q1 m1 d1, .bool g2, .slice p2 n2 c2, .slice q2 m2 d2] 31) none) (World.grownBy_alloc _ (.cells #[.bool g3, .slice p3 n3 c3, .slice q3 m3 d3, .bool g4, .slice p4 n4 c4, .slice q4 m4 d4] 31) none)) (World.grownBy_alloc _ (.cells #[.bool false, .slice none 0 0, .slice none 0 0, .bool false, .slice none 0 0, .slice none 0 0] 31) none))
  have bx0 : (((w.alloc (.cells #[.bool g1, .slice p1 n1 c1, .slice q1 m1 d1, .bool g2, .slice p2 n2 c2, .slice q2 m2 d2] 31)).alloc (.cells #[.bool g3, .slice p3 n3 c3, .slice q3 m3 d3, .bool g4, .slice p4 n4 c4, .slice q4 m4 d4] 31)).alloc (.cells #[.bool false, .slice none 0 0, .slice none 0 0, .bool false, .slice none 0 0, .slice none 0 0] 31)).heap[w.heap.size]? = some (.cells #[.bool g1, .slice p1 n1 c1, .slice q1 m1 d1, .bool g2, .slice p2 n2 c2, .slice q2 m2 d2] 31 (0, 0)) := by
    have h0 := heap_alloc_new w (.cells #[.bool g1, .slice p1 n1 c1, .slice q1 m1 d1, .bool g2, .slice p2 n2 c2, .slice q2 m2 d2] 31)
    have h1 := (grown_trans (World.grownBy_alloc (w.alloc (.cells #[.bool g1, .slice p1 n1 c1, .slice q1 m1 d1, .bool g2, .slice p2 n2 c2, .slice q2 m2 d2] 31)) (.cells #[.bool g3, .slice p3 n3 c3, .slice q3 m3 d3, .bool g4, .slice p4 n4 c4, .slice q4 m4 d4] 31) none) (World.grownBy_alloc _ (.cells #[.bool false, .slice none 0 0, .slice none 0 0, .bool false, .slice none 0 0, .slice none 0 0] 31) none)).block _ (lt_of_block h0) (by simp)
    have h2 := h1.trans h0
    simpa using h2
  have bx1 : (((w.alloc (.cells #[.bool g1, .slice p1 n1 c1, .slice q1 m1 d1, .bool g2, .slice p2 n2 c2, .slice q2 m2 d2] 31)).alloc (.cells #[.bool g3, .slice p3 n3 c3, .slice q3 m3 d3, .bool g4, .slice p4 n4 c4, .slice q4 m4 d4] 31)).alloc (.cells #[.bool false, .slice none 0 0, .slice none 0 0, .bool false, .slice none 0 0, .slice none 0 0] 31)).heap[w.heap.size + 1]? = some (.cells #[.bool g3, .slice p3 n3 c3, .slice q3 m3 d3, .bool g4, .slice p4 n4 c4, .slice q4 m4 d4] 31 (0, 0)) := by
    have h0 := heap_alloc_new (w.alloc (.cells #[.bool g1, .slice p1 n1 c1, .slice q1 m1 d1, .bool g2, .slice p2 n2 c2, .slice q2 m2 d2] 31)) (.cells #[.bool g3, .slice p3 n3 c3, .slice q3 m3 d3, .bool g4, .slice p4 n4 c4, .slice q4 m4 d4] 31)
    have h1 := (World.grownBy_alloc ((w.alloc (.cells #[.bool g1, .slice p1 n1 c1, .slice q1 m1 d1, .bool g2, .slice p2 n2 c2, .slice q2 m2 d2] 31)).alloc (.cells #[.bool g3, .slice p3 n3 c3, .slice q3 m3 d3, .bool g4, .slice p4 n4 c4, .slice q4 m4 d4] 31)) (.cells #[.bool false, .slice none 0 0, .slice none 0 0, .bool false, .slice none 0 0, .slice none 0 0] 31) none).block _ (lt_of_block h0) (by simp)
    have h2 := h1.trans h0
    simpa using h2
  have bx2 : (((w.alloc (.cells #[.bool g1, .slice p1 n1 c1, .slice q1 m1 d1, .bool g2, .slice p2 n2 c2, .slice q2 m2 d2] 31)).alloc (.cells #[.bool g3, .slice p3 n3 c3, .slice q3 m3 d3, .bool g4, .slice p4 n4 c4, .slice q4 m4 d4] 31)).alloc (.cells #[.bool false, .slice none 0 0, .slice none 0 0, .bool false, .slice none 0 0, .slice none 0 0] 31)).heap[w.heap.size + 1 + 1]? = some (.cells #[.bool false, .slice none 0 0, .slice none 0 0, .bool false, .slice none 0 0, .slice none 0 0] 31 (0, 0)) := by
    have := heap_alloc_new ((w.alloc (.cells #[.bool g1, .slice p1 n1 c1, .slice q1 m1 d1, .bool g2, .slice p2 n2 c2, .slice q2 m2 d2] 31)).alloc (.cells #[.bool g3, .slice p3 n3 c3, .slice q3 m3 d3, .bool g4, .slice p4 n4 c4, .slice q4 m4 d4] 31)) (.cells #[.bool false, .slice none 0 0, .slice none 0 0, .bool false, .slice none 0 0, .slice none 0 0] 31)
    simpa using this
  replace hA := hA.keep hW; replace hB := hB.keep hW; replace hX := hX.keep hW; replace hY := hY.keep hW
  obtain ⟨⟨x0, x1, x2, x3, x4, x5⟩, _⟩ := ivbox_facts bx0
  obtain ⟨⟨y0, y1, y2, y3, y4, y5⟩, _⟩ := ivbox_facts bx1
  clear bx0 bx1
  go_enter Tryz.func24, Tryz.ntmps24
  go_upto_region 1 with fail
  generalize (((w.alloc (.cells #[.bool g1, .slice p1 n1 c1, .slice q1 m1 d1, .bool g2, .slice p2 n2 c2, .slice q2 m2 d2] 31)).alloc (.cells #[.bool g3, .slice p3 n3 c3, .slice q3 m3 d3, .bool g4, .slice p4 n4 c4, .slice q4 m4 d4] 31)).alloc (.cells #[.bool false, .slice none 0 0, .slice none 0 0, .bool false, .slice none 0 0, .slice none 0 0] 31)) = w0 at *
  have hg := World.grownBy_alloc w0 (.cells #[.bool g1, .slice p1 n1 c1, .slice q1 m1 d1, .bool g2, .slice p2 n2 c2, .slice q2 m2 d2, .bool g3, .slice p3 n3 c3, .slice q3 m3 d3, .bool g4, .slice p4 n4 c4, .slice q4 m4 d4] 27) none
  have ba := heap_alloc_new w0 (.cells #[.bool g1, .slice p1 n1 c1, .slice q1 m1 d1, .bool g2, .slice p2 n2 c2, .slice q2 m2 d2, .bool g3, .slice p3 n3 c3, .slice q3 m3 d3, .bool g4, .slice p4 n4 c4, .slice q4 m4 d4] 27)
  replace hA := hA.keep hg; replace hB := hB.keep hg; replace hX := hX.keep hg; replace hY := hY.keep hg
  replace bx2 := (hg.block _ (lt_of_block bx2) (by simp)).trans bx2; replace hW := grown_trans hW hg
  clear hg
  have hl : RVs (w0.alloc (.cells #[.bool g1, .slice p1 n1 c1, .slice q1 m1 d1, .bool g2, .slice p2 n2 c2, .slice q2 m2 d2, .bool g3, .slice p3 n3 c3, .slice q3 m3 d3, .bool g4, .slice p4 n4 c4, .slice q4 m4 d4] 27)) w0.heap.size [⟨g1, p1, n1, c1, q1, m1, d1, A⟩, ⟨g2, p2, n2, c2, q2, m2, d2, B⟩, ⟨g3, p3, n3, c3, q3, m3, d3, X⟩, ⟨g4, p4, n4, c4, q4, m4, d4, Y⟩] := rvs4 ba hA hB hX hY
  have hGa := lt_of_block ba
  have HSZ := hid (show ∀ r ∈ ([⟨g1, p1, n1, c1, q1, m1, d1, A⟩, ⟨g2, p2, n2, c2, q2, m2, d2, B⟩, ⟨g3, p3, n3, c3, q3, m3, d3, X⟩, ⟨g4, p4, n4, c4, q4, m4, d4, Y⟩] : List RV), r.n ≤ S ∧ r.m ≤ S from four_sz ⟨hn1, hm1⟩ ⟨hn2, hm2⟩ ⟨hn3, hm3⟩ ⟨hn4, hm4⟩)
  clear ba
  go_wp2_with fail
  refine (rSpan_v S ⟨g1, p1, n1, c1, q1, m1, d1, A⟩ [⟨g2, p2, n2, c2, q2, m2, d2, B⟩, ⟨g3, p3, n3, c3, q3, m3, d3, X⟩, ⟨g4, p4, n4, c4, q4, m4, d4, Y⟩] 4 rfl hl hGa HSZ.out (by omega) (by omega)).mono ?_
  rintro ee v9 ⟨g9, g10, p9, q9, p10, q10, n9, c9, m9, d9, n10, c10, m10, d10, rfl, hR, hS2, b1, b2, hg⟩
  replace bx2 := (hg.block _ (lt_of_block bx2) (by simp)).trans bx2; replace hW := grown_trans hW hg
  clear hg
  have ff := ivbox_facts bx2; obtain ⟨⟨l0, l1, l2, l3, l4, l5⟩, f0, f1, f2, f3, f4, f5⟩ := ff
  go_wp2_with fail
  exact bodyPost_ret (v := .agg #[.bool g9, .slice p9 n9 c9, .slice q9 m9 d9, .bool g10, .slice p10 n10 c10, .slice q10 m10 d10]) (by simp [results, Tryz.results24, go_sem, l0, l1, l2, l3, l4, l5, f0, f1, f2, f3, f4, f5]) rfl
    (WPost.close bx2 (by omega) hW hR hS2 b1 b2)

set_option maxRecDepth 20000 in
set_option maxHeartbeats 4000000 in
theorem ivSign_eq (S : Nat) {w : World} {g1 g2 : Bool} {p1 q1 p2 q2 : Option Addr} {n1 c1 m1 d1 n2 c2 m2 d2 : Nat} {A B : Rat} (hA : IsQ w g1 p1 n1 c1 q1 m1 d1 A) (hB : IsQ w g2 p2 n2 c2 q2 m2 d2 B) (hn1 : n1 ≤ S) (hm1 : m1 ≤ S) (hn2 : n2 ≤ S) (hm2 : m2 ≤ S) (hS : S ≤ 40000) (HE : Hid ((cmpR A 0 = cmpR B 0))) :
    Calls Tryz.prog 19 #[.agg #[.bool g1, .slice p1 n1 c1, .slice q1 m1 d1, .bool g2, .slice p2 n2 c2, .slice q2 m2 d2]] w fun e w' => e = .returned (.tuple #[.int .i64 (cmpR A 0), .bool true]) ∧ w.grownBy w' none := by
  have hW := (World.grownBy_alloc w (.cells #[.bool g1, .slice p1 n1 c1, .slice q1 m1 d1, .bool g2, .slice p2 n2 c2, .slice q2 m2 d2] 31) none)
  have bx0 : (w.alloc (.cells #[.bool g1, .slice p1 n1 c1, .slice q1 m1 d1, .bool g2, .slice p2 n2 c2, .slice q2 m2 d2] 31)).heap[w.heap.size]? = some (.cells #[.bool g1, .slice p1 n1 c1, .slice q1 m1 d1, .bool g2, .slice p2 n2 c2, .slice q2 m2 d2] 31 (0, 0)) := by
    have := heap_alloc_new w (.cells #[.bool g1, .slice p1 n1 c1, .slice q1 m1 d1, .bool g2, .slice p2 n2 c2, .slice q2 m2 d2] 31)
    simpa using this
  replace hA := hA.keep hW; replace hB := hB.keep hW
  obtain ⟨⟨x0, x1, x2, x3, x4, x5⟩, _⟩ := ivbox_facts bx0
  clear bx0
  go_enter Tryz.func19, Tryz.ntmps19
  go_wp2_with fail
  generalize (w.alloc (.cells #[.bool g1, .slice p1 n1 c1, .slice q1 m1 d1, .bool g2, .slice p2 n2 c2, .slice q2 m2 d2] 31)) = w0 at *
  refine (signsOf_v S hA hB hn1 hm1 hn2 hm2 hS).mono ?_
  rintro ee v1 ⟨rfl, hg⟩
  replace hA := hA.keep hg; replace hB := hB.keep hg; replace x0 := hg.cell x0 (by simp); replace x1 := hg.cell x1 (by simp)
  replace x2 := hg.cell x2 (by simp); replace x3 := hg.cell x3 (by simp); replace x4 := hg.cell x4 (by simp); replace x5 := hg.cell x5 (by simp)
  replace hW := grown_trans hW hg
  clear hg
  generalize hsa : cmpR A 0 = sa at *
  generalize hsb : cmpR B 0 = sb at *
  replace hsa := hid hsa
  clear hsb
  obtain rfl : sa = sb := HE.out
  have hg := World.grownBy_alloc v1 (.cells #[.int .i64 sa, .int .i64 sa] 66) none
  have hb := heap_alloc_new v1 (.cells #[.int .i64 sa, .int .i64 sa] 66)
  replace hA := hA.keep hg; replace hB := hB.keep hg; replace x0 := hg.cell x0 (by simp); replace x1 := hg.cell x1 (by simp)
  replace x2 := hg.cell x2 (by simp); replace x3 := hg.cell x3 (by simp); replace x4 := hg.cell x4 (by simp); replace x5 := hg.cell x5 (by simp)
  replace hW := grown_trans hW hg
  obtain ⟨s0, s1, _, _⟩ := sgbox_facts hb
  clear hg hb
  go_upto_region 2 with fail
  generalize v1.alloc (.cells #[.int .i64 sa, .int .i64 sa] 66) = u1 at *
  generalize v1.heap.size = K1 at *
  have hg := grown_drew u1 none
  replace hA := hA.keep hg; replace hB := hB.keep hg; replace x0 := hg.cell x0 (by simp); replace x1 := hg.cell x1 (by simp)
  replace x2 := hg.cell x2 (by simp); replace x3 := hg.cell x3 (by simp); replace x4 := hg.cell x4 (by simp); replace x5 := hg.cell x5 (by simp)
  replace s0 := hg.cell s0 (by simp); replace s1 := hg.cell s1 (by simp); replace hW := grown_trans hW hg
  clear hg
  go_region_held3 (fun w' => w'.cell? ⟨K1, 0, none⟩ = some (.int .i64 sa) ∧ w'.cell? ⟨K1, 1, none⟩ = some (.int .i64 sa)) ((try go_split_ands) <;> (repeat' apply And.intro) <;> (repeat (first | (with_reducible assumption) | (with_reducible refine (grown_setCell _ _ _).cell ?_ (by first | (simp; omega) | simp)) | (with_reducible refine (World.grownBy_alloc _ _ none).cell ?_ (by simp)) | (with_reducible refine (grown_drew _ none).cell ?_ (by simp)))))
    (first
      | (go_at_call 55; (with_reducible refine (both_v sa).mono ?_); rintro ee v2 ⟨rfl, hg⟩; replace hA := hA.keep hg; replace hB := hB.keep hg; replace x0 := hg.cell x0 (by simp); replace x1 := hg.cell x1 (by simp); replace x2 := hg.cell x2 (by simp); replace x3 := hg.cell x3 (by simp); replace x4 := hg.cell x4 (by simp); replace x5 := hg.cell x5 (by simp); replace s0 := hg.cell s0 (by simp); replace s1 := hg.cell s1 (by simp); replace hW := grown_trans hW hg; clear hg))
  go_wp2_with fail
  exact bodyPost_ret (v := .tuple #[.int .i64 sa, .bool true]) (by simp [results, Tryz.results19, go_sem]) rfl ⟨by rw [hsa.out], hW⟩

set_option maxRecDepth 20000 in
set_option maxHeartbeats 4000000 in
theorem ivSign_ne (S : Nat) {w : World} {g1 g2 : Bool} {p1 q1 p2 q2 : Option Addr} {n1 c1 m1 d1 n2 c2 m2 d2 : Nat} {A B : Rat} (hA : IsQ w g1 p1 n1 c1 q1 m1 d1 A) (hB : IsQ w g2 p2 n2 c2 q2 m2 d2 B) (hn1 : n1 ≤ S) (hm1 : m1 ≤ S) (hn2 : n2 ≤ S) (hm2 : m2 ≤ S) (hS : S ≤ 40000) (HE : Hid (¬ (cmpR A 0 = cmpR B 0))) :
    Calls Tryz.prog 19 #[.agg #[.bool g1, .slice p1 n1 c1, .slice q1 m1 d1, .bool g2, .slice p2 n2 c2, .slice q2 m2 d2]] w fun e w' => e = .returned (.tuple #[.int .i64 0, .bool false]) ∧ w.grownBy w' none := by
  have hW := (World.grownBy_alloc w (.cells #[.bool g1, .slice p1 n1 c1, .slice q1 m1 d1, .bool g2, .slice p2 n2 c2, .slice q2 m2 d2] 31) none)
  have bx0 : (w.alloc (.cells #[.bool g1, .slice p1 n1 c1, .slice q1 m1 d1, .bool g2, .slice p2 n2 c2, .slice q2 m2 d2] 31)).heap[w.heap.size]? = some (.cells #[.bool g1, .slice p1 n1 c1, .slice q1 m1 d1, .bool g2, .slice p2 n2 c2, .slice q2 m2 d2] 31 (0, 0)) := by
    have := heap_alloc_new w (.cells #[.bool g1, .slice p1 n1 c1, .slice q1 m1 d1, .bool g2, .slice p2 n2 c2, .slice q2 m2 d2] 31)
    simpa using this
  replace hA := hA.keep hW; replace hB := hB.keep hW
  obtain ⟨⟨x0, x1, x2, x3, x4, x5⟩, _⟩ := ivbox_facts bx0
  clear bx0
  go_enter Tryz.func19, Tryz.ntmps19
  go_wp2_with fail
  generalize (w.alloc (.cells #[.bool g1, .slice p1 n1 c1, .slice q1 m1 d1, .bool g2, .slice p2 n2 c2, .slice q2 m2 d2] 31)) = w0 at *
  refine (signsOf_v S hA hB hn1 hm1 hn2 hm2 hS).mono ?_
  rintro ee v1 ⟨rfl, hg⟩
  replace hA := hA.keep hg; replace hB := hB.keep hg; replace x0 := hg.cell x0 (by simp); replace x1 := hg.cell x1 (by simp)
  replace x2 := hg.cell x2 (by simp); replace x3 := hg.cell x3 (by simp); replace x4 := hg.cell x4 (by simp); replace x5 := hg.cell x5 (by simp)
  replace hW := grown_trans hW hg
  clear hg
  generalize hsa : cmpR A 0 = sa at *
  generalize hsb : cmpR B 0 = sb at *
  replace hsa := hid hsa
  clear hsb
  have hne : ¬ (sb = sa) := fun e => HE.out e.symm
  have hg := World.grownBy_alloc v1 (.cells #[.int .i64 sa, .int .i64 sb] 66) none
  have hb := heap_alloc_new v1 (.cells #[.int .i64 sa, .int .i64 sb] 66)
  replace hA := hA.keep hg; replace hB := hB.keep hg; replace x0 := hg.cell x0 (by simp); replace x1 := hg.cell x1 (by simp)
  replace x2 := hg.cell x2 (by simp); replace x3 := hg.cell x3 (by simp); replace x4 := hg.cell x4 (by simp); replace x5 := hg.cell x5 (by simp)
  replace hW := grown_trans hW hg
  obtain ⟨s0, s1, _, _⟩ := sgbox_facts hb
  clear hg hb
  go_upto_region 2 with fail
  generalize v1.alloc (.cells #[.int .i64 sa, .int .i64 sb] 66) = u1 at *
  generalize v1.heap.size = K1 at *
  have hg := grown_drew u1 none
  replace hA := hA.keep hg; replace hB := hB.keep hg; replace x0 := hg.cell x0 (by simp); replace x1 := hg.cell x1 (by simp)
  replace x2 := hg.cell x2 (by simp); replace x3 := hg.cell x3 (by simp); replace x4 := hg.cell x4 (by simp); replace x5 := hg.cell x5 (by simp)
  replace s0 := hg.cell s0 (by simp); replace s1 := hg.cell s1 (by simp); replace hW := grown_trans hW hg
  clear hg
  go_region_held3 (fun w' => w'.cell? ⟨K1, 0, none⟩ = some (.int .i64 sa) ∧ w'.cell? ⟨K1, 1, none⟩ = some (.int .i64 sb)) ((try go_split_ands) <;> (repeat' apply And.intro) <;> (repeat (first | (with_reducible assumption) | (with_reducible refine (grown_setCell _ _ _).cell ?_ (by first | (simp; omega) | simp)) | (with_reducible refine (World.grownBy_alloc _ _ none).cell ?_ (by simp)) | (with_reducible refine (grown_drew _ none).cell ?_ (by simp)))))
    (first
      | (go_at_call 55; (with_reducible refine (both_v sa).mono ?_); rintro ee v2 ⟨rfl, hg⟩; replace hA := hA.keep hg; replace hB := hB.keep hg; replace x0 := hg.cell x0 (by simp); replace x1 := hg.cell x1 (by simp); replace x2 := hg.cell x2 (by simp); replace x3 := hg.cell x3 (by simp); replace x4 := hg.cell x4 (by simp); replace x5 := hg.cell x5 (by simp); replace s0 := hg.cell s0 (by simp); replace s1 := hg.cell s1 (by simp); replace hW := grown_trans hW hg; clear hg))
  go_wp2_with fail
  exact bodyPost_ret (v := .tuple #[.int .i64 0, .bool false]) (by simp [results, Tryz.results19, go_sem]) rfl ⟨rfl, hW⟩

set_option maxRecDepth 20000 in
set_option maxHeartbeats 4000000 in
theorem rIvSign_eq (S : Nat) {w : World} {g1 g2 : Bool} {p1 q1 p2 q2 : Option Addr} {n1 c1 m1 d1 n2 c2 m2 d2 : Nat} {A B : Rat} (hA : IsQ w g1 p1 n1 c1 q1 m1 d1 A) (hB : IsQ w g2 p2 n2 c2 q2 m2 d2 B) (hn1 : n1 ≤ S) (hm1 : m1 ≤ S) (hn2 : n2 ≤ S) (hm2 : m2 ≤ S) (hS : S ≤ 40000) (HE : Hid ((cmpR A 0 = cmpR B 0))) :
    Calls Tryz.prog 20 #[.agg #[.bool g1, .slice p1 n1 c1, .slice q1 m1 d1, .bool g2, .slice p2 n2 c2, .slice q2 m2 d2]] w fun e w' => e = .returned (.tuple #[.int .i64 (cmpR A 0), .bool true]) ∧ w.grownBy w' none := by
  have hW := (World.grownBy_alloc w (.cells #[.bool g1, .slice p1 n1 c1, .slice q1 m1 d1, .bool g2, .slice p2 n2 c2, .slice q2 m2 d2] 31) none)
  have bx0 : (w.alloc (.cells #[.bool g1, .slice p1 n1 c1, .slice q1 m1 d1, .bool g2, .slice p2 n2 c2, .slice q2 m2 d2] 31)).heap[w.heap.size]? = some (.cells #[.bool g1, .slice p1 n1 c1, .slice q1 m1 d1, .bool g2, .slice p2 n2 c2, .slice q2 m2 d2] 31 (0, 0)) := by
    have := heap_alloc_new w (.cells #[.bool g1, .slice p1 n1 c1, .slice q1 m1 d1, .bool g2, .slice p2 n2 c2, .slice q2 m2 d2] 31)
    simpa using this
  replace hA := hA.keep hW; replace hB := hB.keep hW
  obtain ⟨⟨x0, x1, x2, x3, x4, x5⟩, _⟩ := ivbox_facts bx0
  clear bx0
  go_enter Tryz.func20, Tryz.ntmps20
  go_wp2_with fail
  generalize (w.alloc (.cells #[.bool g1, .slice p1 n1 c1, .slice q1 m1 d1, .bool g2, .slice p2 n2 c2, .slice q2 m2 d2] 31)) = w0 at *
  have hg := grown_drew w0 none
  replace hA := hA.keep hg; replace hB := hB.keep hg; replace x0 := hg.cell x0 (by simp); replace x1 := hg.cell x1 (by simp)
  replace x2 := hg.cell x2 (by simp); replace x3 := hg.cell x3 (by simp); replace x4 := hg.cell x4 (by simp); replace x5 := hg.cell x5 (by simp)
  replace hW := grown_trans hW hg
  clear hg
  go_region_held3 (fun w' => w'.cell? ⟨w.heap.size, 0, none⟩ = some (.bool g1) ∧ w'.cell? ⟨w.heap.size, 1, none⟩ = some (.slice p1 n1 c1) ∧ w'.cell? ⟨w.heap.size, 2, none⟩ = some (.slice q1 m1 d1) ∧ w'.cell? ⟨w.heap.size, 3, none⟩ = some (.bool g2) ∧ w'.cell? ⟨w.heap.size, 4, none⟩ = some (.slice p2 n2 c2) ∧ w'.cell? ⟨w.heap.size, 5, none⟩ = some (.slice q2 m2 d2)) ((try go_split_ands) <;> (repeat' apply And.intro) <;> (repeat (first | (with_reducible assumption) | (with_reducible refine (grown_setCell _ _ _).cell ?_ (by first | (simp; omega) | simp)) | (with_reducible refine (World.grownBy_alloc _ _ none).cell ?_ (by simp)) | (with_reducible refine (grown_drew _ none).cell ?_ (by simp)))))
    (first
      | (go_at_call 56; (with_reducible refine (rSign3_v S hA hn1 hm1 hS).mono ?_); rintro ee v1 ⟨rfl, hg⟩; replace hA := hA.keep hg; replace hB := hB.keep hg; replace x0 := hg.cell x0 (by simp); replace x1 := hg.cell x1 (by simp); replace x2 := hg.cell x2 (by simp); replace x3 := hg.cell x3 (by simp); replace x4 := hg.cell x4 (by simp); replace x5 := hg.cell x5 (by simp); replace hW := grown_trans hW hg; clear hg)
      | (go_at_call 56; (with_reducible refine (rSign3_v S hB hn2 hm2 hS).mono ?_); rintro ee v2 ⟨rfl, hg⟩; replace hA := hA.keep hg; replace hB := hB.keep hg; replace x0 := hg.cell x0 (by simp); replace x1 := hg.cell x1 (by simp); replace x2 := hg.cell x2 (by simp); replace x3 := hg.cell x3 (by simp); replace x4 := hg.cell x4 (by simp); replace x5 := hg.cell x5 (by simp); replace hW := grown_trans hW hg; clear hg))
  generalize hsa : cmpR A 0 = sa at *
  generalize hsb : cmpR B 0 = sb at *
  replace hsa := hid hsa
  clear hsb
  obtain rfl : sa = sb := HE.out
  go_wp2_with fail
  exact bodyPost_ret (v := .tuple #[.int .i64 sa, .bool true]) (by simp [results, Tryz.results20, go_sem]) rfl ⟨by rw [hsa.out], hW⟩

set_option maxRecDepth 20000 in
set_option maxHeartbeats 4000000 in
theorem rIvSign_ne (S : Nat) {w : World} {g1 g2 : Bool} {p1 q1 p2 q2 : Option Addr} {n1 c1 m1 d1 n2 c2 m2 d2 : Nat} {A B : Rat} (hA : IsQ w g1 p1 n1 c1 q1 m1 d1 A) (hB : IsQ w g2 p2 n2 c2 q2 m2 d2 B) (hn1 : n1 ≤ S) (hm1 : m1 ≤ S) (hn2 : n2 ≤ S) (hm2 : m2 ≤ S) (hS : S ≤ 40000) (HE : Hid (¬ (cmpR A 0 = cmpR B 0))) :
    Calls Tryz.prog 20 #[.agg #[.bool g1, .slice p1 n1 c1, .slice q1 m1 d1, .bool g2, .slice p2 n2 c2, .slice q2 m2 d2]] w fun e w' => e = .returned (.tuple #[.int .i64 0, .bool false]) ∧ w.grownBy w' none := by
  have hW := (World.grownBy_alloc w (.cells #[.bool g1, .slice p1 n1 c1, .slice q1 m1 d1, .bool g2, .slice p2 n2 c2, .slice q2 m2 d2] 31) none)
  have bx0 : (w.alloc (.cells #[.bool g1, .slice p1 n1 c1, .slice q1 m1 d1, .bool g2, .slice p2 n2 c2, .slice q2 m2 d2] 31)).heap[w.heap.size]? = some (.cells #[.bool g1, .slice p1 n1 c1, .slice q1 m1 d1, .bool g2, .slice p2 n2 c2, .slice q2 m2 d2] 31 (0, 0)) := by
    have := heap_alloc_new w (.cells #[.bool g1, .slice p1 n1 c1, .slice q1 m1 d1, .bool g2, .slice p2 n2 c2, .slice q2 m2 d2] 31)
    simpa using this
  replace hA := hA.keep hW; replace hB := hB.keep hW
  obtain ⟨⟨x0, x1, x2, x3, x4, x5⟩, _⟩ := ivbox_facts bx0
  clear bx0
  go_enter Tryz.func20, Tryz.ntmps20
  go_wp2_with fail
  generalize (w.alloc (.cells #[.bool g1, .slice p1 n1 c1, .slice q1 m1 d1, .bool g2, .slice p2 n2 c2, .slice q2 m2 d2] 31)) = w0 at *
  have hg := grown_drew w0 none
  replace hA := hA.keep hg; replace hB := hB.keep hg; replace x0 := hg.cell x0 (by simp); replace x1 := hg.cell x1 (by simp)
  replace x2 := hg.cell x2 (by simp); replace x3 := hg.cell x3 (by simp); replace x4 := hg.cell x4 (by simp); replace x5 := hg.cell x5 (by simp)
  replace hW := grown_trans hW hg
  clear hg
  go_region_held3 (fun w' => w'.cell? ⟨w.heap.size, 0, none⟩ = some (.bool g1) ∧ w'.cell? ⟨w.heap.size, 1, none⟩ = some (.slice p1 n1 c1) ∧ w'.cell? ⟨w.heap.size, 2, none⟩ = some (.slice q1 m1 d1) ∧ w'.cell? ⟨w.heap.size, 3, none⟩ = some (.bool g2) ∧ w'.cell? ⟨w.heap.size, 4, none⟩ = some (.slice p2 n2 c2) ∧ w'.cell? ⟨w.heap.size, 5, none⟩ = some (.slice q2 m2 d2)) ((try go_split_ands) <;> (repeat' apply And.intro) <;> (repeat (first | (with_reducible assumption) | (with_reducible refine (grown_setCell _ _ _).cell ?_ (by first | (simp; omega) | simp)) | (with_reducible refine (World.grownBy_alloc _ _ none).cell ?_ (by simp)) | (with_reducible refine (grown_drew _ none).cell ?_ (by simp)))))
    (first
      | (go_at_call 56; (with_reducible refine (rSign3_v S hA hn1 hm1 hS).mono ?_); rintro ee v1 ⟨rfl, hg⟩; replace hA := hA.keep hg; replace hB := hB.keep hg; replace x0 := hg.cell x0 (by simp); replace x1 := hg.cell x1 (by simp); replace x2 := hg.cell x2 (by simp); replace x3 := hg.cell x3 (by simp); replace x4 := hg.cell x4 (by simp); replace x5 := hg.cell x5 (by simp); replace hW := grown_trans hW hg; clear hg)
      | (go_at_call 56; (with_reducible refine (rSign3_v S hB hn2 hm2 hS).mono ?_); rintro ee v2 ⟨rfl, hg⟩; replace hA := hA.keep hg; replace hB := hB.keep hg; replace x0 := hg.cell x0 (by simp); replace x1 := hg.cell x1 (by simp); replace x2 := hg.cell x2 (by simp); replace x3 := hg.cell x3 (by simp); replace x4 := hg.cell x4 (by simp); replace x5 := hg.cell x5 (by simp); replace hW := grown_trans hW hg; clear hg))
  generalize hsa : cmpR A 0 = sa at *
  generalize hsb : cmpR B 0 = sb at *
  replace hsa := hid hsa
  clear hsb
  have hne : ¬ (sa = sb) := HE.out
  go_wp2_with fail
  exact bodyPost_ret (v := .tuple #[.int .i64 0, .bool false]) (by simp [results, Tryz.results20, go_sem]) rfl ⟨rfl, hW⟩
end Go.Proofs.YtocfklanejonkaaGreatDoor

set_option linter.unusedVariables false
set_option linter.unusedSimpArgs false
namespace Go.Proofs.YtocfklanejonkaaGreatDoor
open Go.RowKit Nm

abbrev Sl4 := Option Addr × Nat × Nat
set_option maxHeartbeats 2000000 in
theorem short4_any (g c : Nat) (vs : List (Sl4 × Sl4)) (w : World) (hn : vs.length ≤ 1000)
    (h : ∀ j (hj : j < vs.length), w.cell? ⟨g, j * 3 + 1, none⟩ = some (.slice vs[j].1.1 vs[j].1.2.1 vs[j].1.2.2) ∧ w.cell? ⟨g, j * 3 + 2, none⟩ = some (.slice vs[j].2.1 vs[j].2.2.1 vs[j].2.2.2)) :
    Calls Tryz.prog 6 #[.slice (some ⟨g, 0, none⟩) vs.length c] w fun e w' => e = .returned (.bool (decide (∀ v ∈ vs, v.1.2.1 ≤ 8 ∧ v.2.2.1 ≤ 8))) ∧ w = w' := by
  obtain ⟨n, hnn⟩ : ∃ n, n = vs.length := ⟨_, rfl⟩
  rw [← hnn] at hn ⊢
  have H := hid h
  have HN := hid hnn
  clear h hnn
  go_enter Tryz.func6, Tryz.ntmps6
  go_wp2_with fail
  go_loop [3] (fun i => ∃ k : Nat, k ≤ n ∧ i = .int .i64 k ∧ Hid (∀ j (hj : j < vs.length), j < k → vs[j].1.2.1 ≤ 8 ∧ vs[j].2.2.1 ≤ 8)) (fun i => n - (intOf i).toNat)
  case atStart => exact ⟨0, Nat.zero_le _, rfl, hid fun j _ h => by omega⟩
  case round =>
    obtain ⟨k, hk, rfl, HK⟩ := hrel
    by_cases hlt : k < n
    · have hkv : k < vs.length := by rw [← HN.out]; exact hlt
      obtain ⟨hc, hd⟩ := H.out k hkv
      obtain ⟨v, hv⟩ : ∃ v, v = vs[k] := ⟨_, rfl⟩
      rw [← hv] at hc hd
      obtain ⟨⟨p, m, d⟩, q, m2, d2⟩ := v
      simp only [] at hc hd
      have HV := hid hv
      clear hv
      have hki : (k : Int) < (n : Int) := by omega
      by_cases h24 : m ≤ 8
      · have h24' : ¬ ((8 : Int) < (m : Int)) := by omega
        by_cases h25 : m2 ≤ 8
        · have h25' : ¬ ((8 : Int) < (m2 : Int)) := by omega
          go_wp2
          refine ⟨⟨k + 1, by omega, rfl, hid fun j hj hjk => ?_⟩, by simp [intOf]; omega⟩
          by_cases e : j = k
          · subst e; rw [← HV.out]; exact ⟨h24, h25⟩
          · exact HK.out j hj (by omega)
        · have h25' : ((8 : Int) < (m2 : Int)) := by omega
          go_wp2
          go_ret
          have : ¬ ∀ v ∈ vs, v.1.2.1 ≤ 8 ∧ v.2.2.1 ≤ 8 := fun h => by
            have := h vs[k] (List.getElem_mem hkv)
            rw [← HV.out] at this; exact h25 this.2
          rw [decide_eq_false this]
          exact ⟨rfl, rfl⟩
      · have h24' : ((8 : Int) < (m : Int)) := by omega
        go_wp2
        go_ret
        have : ¬ ∀ v ∈ vs, v.1.2.1 ≤ 8 ∧ v.2.2.1 ≤ 8 := fun h => by
          have := h vs[k] (List.getElem_mem hkv)
          rw [← HV.out] at this; exact h24 this.1
        rw [decide_eq_false this]
        exact ⟨rfl, rfl⟩
    · obtain rfl : k = n := by omega
      go_wp2
      go_ret
      have : ∀ v ∈ vs, v.1.2.1 ≤ 8 ∧ v.2.2.1 ≤ 8 := fun v hv => by
        obtain ⟨j, hj, rfl⟩ := List.getElem_of_mem hv
        exact HK.out j hj (by rw [HN.out]; exact hj)
      rw [decide_eq_true this]
      exact ⟨rfl, rfl⟩
end Go.Proofs.YtocfklanejonkaaGreatDoor

set_option linter.unusedVariables false
set_option linter.unusedSimpArgs false
namespace Go.Proofs.YtocfklanejonkaaGreatDoor
open Go.ChangeShapes Go.WideShapes Go.ChangeAt Go.RowKit Nm
open Go

def sgB (A B : Rat) : Bool := decide (cmpR A 0 = cmpR B 0)
def sgV (A B : Rat) : Int := if cmpR A 0 = cmpR B 0 then cmpR A 0 else 0
theorem ivSign_v (S : Nat) {w : World} {g1 g2 : Bool} {p1 q1 p2 q2 : Option Addr} {n1 c1 m1 d1 n2 c2 m2 d2 : Nat} {A B : Rat} (hA : IsQ w g1 p1 n1 c1 q1 m1 d1 A) (hB : IsQ w g2 p2 n2 c2 q2 m2 d2 B) (hn1 : n1 ≤ S) (hm1 : m1 ≤ S) (hn2 : n2 ≤ S) (hm2 : m2 ≤ S) (hS : S ≤ 40000) :
    Calls Tryz.prog 19 #[.agg #[.bool g1, .slice p1 n1 c1, .slice q1 m1 d1, .bool g2, .slice p2 n2 c2, .slice q2 m2 d2]] w fun e w' => e = .returned (.tuple #[.int .i64 (sgV A B), .bool (sgB A B)]) ∧ w.grownBy w' none := by
  unfold sgV sgB
  by_cases h : cmpR A 0 = cmpR B 0
  · rw [if_pos h, decide_eq_true h]; exact ivSign_eq S hA hB hn1 hm1 hn2 hm2 hS (hid h)
  · rw [if_neg h, decide_eq_false h]; exact ivSign_ne S hA hB hn1 hm1 hn2 hm2 hS (hid h)
theorem rIvSign_v (S : Nat) {w : World} {g1 g2 : Bool} {p1 q1 p2 q2 : Option Addr} {n1 c1 m1 d1 n2 c2 m2 d2 : Nat} {A B : Rat} (hA : IsQ w g1 p1 n1 c1 q1 m1 d1 A) (hB : IsQ w g2 p2 n2 c2 q2 m2 d2 B) (hn1 : n1 ≤ S) (hm1 : m1 ≤ S) (hn2 : n2 ≤ S) (hm2 : m2 ≤ S) (hS : S ≤ 40000) :
    Calls Tryz.prog 20 #[.agg #[.bool g1, .slice p1 n1 c1, .slice q1 m1 d1, .bool g2, .slice p2 n2 c2, .slice q2 m2 d2]] w fun e w' => e = .returned (.tuple #[.int .i64 (sgV A B), .bool (sgB A B)]) ∧ w.grownBy w' none := by
  unfold sgV sgB
  by_cases h : cmpR A 0 = cmpR B 0
  · rw [if_pos h, decide_eq_true h]; exact rIvSign_eq S hA hB hn1 hm1 hn2 hm2 hS (hid h)
  · rw [if_neg h, decide_eq_false h]; exact rIvSign_ne S hA hB hn1 hm1 hn2 hm2 hS (hid h)
theorem short4_one (g : Bool) (p : Option Addr) (n c : Nat) (q : Option Addr) (m d : Nat) (w : World) (G : Nat) (hG : G = w.heap.size) :
    Calls Tryz.prog 6 #[.slice (some ⟨G, 0, none⟩) 1 1] (w.alloc (.cells #[.bool g, .slice p n c, .slice q m d] 27)) fun e w' =>
      e = .returned (.bool (decide (n ≤ 8 ∧ m ≤ 8))) ∧ w.grownBy w' none := by
  subst hG
  have := short4_any w.heap.size 1 [((p, n, c), (q, m, d))] (w.alloc (.cells #[.bool g, .slice p n c, .slice q m d] 27)) (by simp) (fun j hj => by
    match j, hj with
    | 0, _ => simp)
  refine this.mono fun e w' ⟨h1, h2⟩ => ⟨by simpa using h1, h2 ▸ World.grownBy_alloc w _ none⟩

set_option maxRecDepth 100000 in
set_option maxHeartbeats 16000000 in
theorem intervalParts_walk (g1 g2 g3 g4 g5 : Bool) (p1 q1 p2 q2 p3 q3 p4 q4 p5 q5 : Option Addr) (n1 c1 m1 d1 n2 c2 m2 d2 n3 c3 m3 d3 n4 c4 m4 d4 n5 c5 m5 d5 : Nat) (A B X Y Z : Rat) (w : World) (T : Tb w) (HA : Hid (n1 ≤ 8 → m1 ≤ 8 → ∃ r : Bool, (∀ W, w.grownBy W none → Calls Tryz.prog 13 #[.agg #[.bool g1, .slice p1 n1 c1, .slice q1 m1 d1]] W fun e w' => e = .returned (.bool r) ∧ W.grownBy w' none) ∧ (r = true → IsV w g1 p1 n1 c1 q1 m1 d1 A))) (HB : Hid (n2 ≤ 8 → m2 ≤ 8 → ∃ r : Bool, (∀ W, w.grownBy W none → Calls Tryz.prog 13 #[.agg #[.bool g2, .slice p2 n2 c2, .slice q2 m2 d2]] W fun e w' => e = .returned (.bool r) ∧ W.grownBy w' none) ∧ (r = true → IsV w g2 p2 n2 c2 q2 m2 d2 B))) (HX : Hid (n3 ≤ 8 → m3 ≤ 8 → ∃ r : Bool, (∀ W, w.grownBy W none → Calls Tryz.prog 13 #[.agg #[.bool g3, .slice p3 n3 c3, .slice q3 m3 d3]] W fun e w' => e = .returned (.bool r) ∧ W.grownBy w' none) ∧ (r = true → IsV w g3 p3 n3 c3 q3 m3 d3 X))) (HY : Hid (n4 ≤ 8 → m4 ≤ 8 → ∃ r : Bool, (∀ W, w.grownBy W none → Calls Tryz.prog 13 #[.agg #[.bool g4, .slice p4 n4 c4, .slice q4 m4 d4]] W fun e w' => e = .returned (.bool r) ∧ W.grownBy w' none) ∧ (r = true → IsV w g4 p4 n4 c4 q4 m4 d4 Y))) (HZ : Hid (n5 ≤ 8 → m5 ≤ 8 → ∃ r : Bool, (∀ W, w.grownBy W none → Calls Tryz.prog 13 #[.agg #[.bool g5, .slice p5 n5 c5, .slice q5 m5 d5]] W fun e w' => e = .returned (.bool r) ∧ W.grownBy w' none) ∧ (r = true → IsV w g5 p5 n5 c5 q5 m5 d5 Z))) :
    Calls Tryz.prog 4 #[.agg #[.bool g1, .slice p1 n1 c1, .slice q1 m1 d1, .bool g2, .slice p2 n2 c2, .slice q2 m2 d2], .agg #[.bool g3, .slice p3 n3 c3, .slice q3 m3 d3, .bool g4, .slice p4 n4 c4, .slice q4 m4 d4], .agg #[.bool g5, .slice p5 n5 c5, .slice q5 m5 d5]] w fun e w' => e = .returned (.bool true) ∧ w.grownBy w' none := by
  have hW3 := grown_trans (grown_trans (World.grownBy_alloc w (.cells #[.bool g1, .slice p1 n1 c1, .slice q1 m1 d1, .bool g2, .slice p2 n2 c2, .slice q2 m2 d2] 31) none) (World.grownBy_alloc _ (.cells #[.bool g3, .slice p3 n3 c3, .slice q3 m3 d3, .bool g4, .slice p4 n4 c4, .slice q4 m4 d4] 31) none)) (World.grownBy_alloc _ (.cells #[.bool g5, .slice p5 n5 c5, .slice q5 m5 d5] 27) none)
  obtain ⟨ra, Ra, Va⟩ : ∃ r : Bool, IW.rt ⟨g1, p1, n1, c1, q1, m1, d1, g2, p2, n2, c2, q2, m2, d2⟩ w r ∧ (IW.ok ⟨g1, p1, n1, c1, q1, m1, d1, g2, p2, n2, c2, q2, m2, d2⟩ → r = true → IsV w g1 p1 n1 c1 q1 m1 d1 A ∧ IsV w g2 p2 n2 c2 q2 m2 d2 B ∧ A ≤ B) := by
    by_cases h : n1 ≤ 8 ∧ m1 ≤ 8 ∧ n2 ≤ 8 ∧ m2 ≤ 8
    · obtain ⟨r, h1, h2⟩ := rRt_full 8 (HA.out h.1 h.2.1) (HB.out h.2.2.1 h.2.2.2) h.1 h.2.1 h.2.2.1 h.2.2.2 (by omega)
      exact ⟨r, fun _ => h1, fun _ => h2⟩
    · exact ⟨false, fun k => absurd k h, fun k => absurd k h⟩
  obtain ⟨rb, Rb, Vb⟩ : ∃ r : Bool, IW.rt ⟨g3, p3, n3, c3, q3, m3, d3, g4, p4, n4, c4, q4, m4, d4⟩ w r ∧ (IW.ok ⟨g3, p3, n3, c3, q3, m3, d3, g4, p4, n4, c4, q4, m4, d4⟩ → r = true → IsV w g3 p3 n3 c3 q3 m3 d3 X ∧ IsV w g4 p4 n4 c4 q4 m4 d4 Y ∧ X ≤ Y) := by
    by_cases h : n3 ≤ 8 ∧ m3 ≤ 8 ∧ n4 ≤ 8 ∧ m4 ≤ 8
    · obtain ⟨r, h1, h2⟩ := rRt_full 8 (HX.out h.1 h.2.1) (HY.out h.2.2.1 h.2.2.2) h.1 h.2.1 h.2.2.1 h.2.2.2 (by omega)
      exact ⟨r, fun _ => h1, fun _ => h2⟩
    · exact ⟨false, fun k => absurd k h, fun k => absurd k h⟩
  have HS := small4_two ⟨g1, p1, n1, c1, q1, m1, d1, g2, p2, n2, c2, q2, m2, d2⟩ ⟨g3, p3, n3, c3, q3, m3, d3, g4, p4, n4, c4, q4, m4, d4⟩ ra rb (((w.alloc (.cells #[.bool g1, .slice p1 n1 c1, .slice q1 m1 d1, .bool g2, .slice p2 n2 c2, .slice q2 m2 d2] 31)).alloc (.cells #[.bool g3, .slice p3 n3 c3, .slice q3 m3 d3, .bool g4, .slice p4 n4 c4, .slice q4 m4 d4] 31)).alloc (.cells #[.bool g5, .slice p5 n5 c5, .slice q5 m5 d5] 27)) (w.heap.size + 1 + 1 + 1) (by simp) (Ra.keep hW3) (Rb.keep hW3)
  dsimp only at HS
  have HT := hid T
  clear T HA HB HX HY Ra Rb
  by_cases hok : (IW.ok ⟨g1, p1, n1, c1, q1, m1, d1, g2, p2, n2, c2, q2, m2, d2⟩ ∧ ra = true) ∧ IW.ok ⟨g3, p3, n3, c3, q3, m3, d3, g4, p4, n4, c4, q4, m4, d4⟩ ∧ rb = true
  · rw [decide_eq_true hok] at HS
    replace HS := hid HS
    obtain ⟨⟨ok1, e1⟩, ok2, e2⟩ := hok
    obtain ⟨hA0, hB0, hAB⟩ := Va ok1 e1
    obtain ⟨hX0, hY0, hXY⟩ := Vb ok2 e2
    have hn1 : n1 ≤ 8 := ok1.1
    have hm1 : m1 ≤ 8 := ok1.2.1
    have hn2 : n2 ≤ 8 := ok1.2.2.1
    have hm2 : m2 ≤ 8 := ok1.2.2.2
    have hn3 : n3 ≤ 8 := ok2.1
    have hm3 : m3 ≤ 8 := ok2.2.1
    have hn4 : n4 ≤ 8 := ok2.2.2.1
    have hm4 : m4 ≤ 8 := ok2.2.2.2
    clear ok1 ok2 e1 e2 Va Vb hAB hXY
    by_cases hx : n5 ≤ 8 ∧ m5 ≤ 8
    · obtain ⟨r5, HZ1, HZ2⟩ := HZ.out hx.1 hx.2
      replace HZ1 := hid HZ1
      have hn5 := hx.1
      have hm5 := hx.2
      cases r5
      · go_enter Tryz.func4, Tryz.ntmps4
        go_wp2_with fail
        refine HS.out.mono ?_
        rintro e w0 ⟨rfl, hg⟩
        have x0 : w0.cell? ⟨w.heap.size, 0, none⟩ = some (.bool g1) := hg.cell (by simp [go_sem, World.cell?_alloc_past]) (by simp)
        have x1 : w0.cell? ⟨w.heap.size, 1, none⟩ = some (.slice p1 n1 c1) := hg.cell (by simp [go_sem, World.cell?_alloc_past]) (by simp)
        have x2 : w0.cell? ⟨w.heap.size, 2, none⟩ = some (.slice q1 m1 d1) := hg.cell (by simp [go_sem, World.cell?_alloc_past]) (by simp)
        have x3 : w0.cell? ⟨w.heap.size, 3, none⟩ = some (.bool g2) := hg.cell (by simp [go_sem, World.cell?_alloc_past]) (by simp)
        have x4 : w0.cell? ⟨w.heap.size, 4, none⟩ = some (.slice p2 n2 c2) := hg.cell (by simp [go_sem, World.cell?_alloc_past]) (by simp)
        have x5 : w0.cell? ⟨w.heap.size, 5, none⟩ = some (.slice q2 m2 d2) := hg.cell (by simp [go_sem, World.cell?_alloc_past]) (by simp)
        have y0 : w0.cell? ⟨w.heap.size + 1, 0, none⟩ = some (.bool g3) := hg.cell (by simp [go_sem, World.cell?_alloc_past]) (by simp)
        have y1 : w0.cell? ⟨w.heap.size + 1, 1, none⟩ = some (.slice p3 n3 c3) := hg.cell (by simp [go_sem, World.cell?_alloc_past]) (by simp)
        have y2 : w0.cell? ⟨w.heap.size + 1, 2, none⟩ = some (.slice q3 m3 d3) := hg.cell (by simp [go_sem, World.cell?_alloc_past]) (by simp)
        have y3 : w0.cell? ⟨w.heap.size + 1, 3, none⟩ = some (.bool g4) := hg.cell (by simp [go_sem, World.cell?_alloc_past]) (by simp)
        have y4 : w0.cell? ⟨w.heap.size + 1, 4, none⟩ = some (.slice p4 n4 c4) := hg.cell (by simp [go_sem, World.cell?_alloc_past]) (by simp)
        have y5 : w0.cell? ⟨w.heap.size + 1, 5, none⟩ = some (.slice q4 m4 d4) := hg.cell (by simp [go_sem, World.cell?_alloc_past]) (by simp)
        have z0 : w0.cell? ⟨w.heap.size + 1 + 1, 0, none⟩ = some (.bool g5) := hg.cell (by simp [go_sem, World.cell?_alloc_past]) (by simp)
        have z1 : w0.cell? ⟨w.heap.size + 1 + 1, 1, none⟩ = some (.slice p5 n5 c5) := hg.cell (by simp [go_sem, World.cell?_alloc_past]) (by simp)
        have z2 : w0.cell? ⟨w.heap.size + 1 + 1, 2, none⟩ = some (.slice q5 m5 d5) := hg.cell (by simp [go_sem, World.cell?_alloc_past]) (by simp)
        replace hg := grown_trans hW3 hg
        have hW := hg
        clear hg HS hW3
        go_wp2_with fail
        refine (short4_one g5 p5 n5 c5 q5 m5 d5 w0 _ rfl).mono ?_
        rintro e w1 ⟨rfl, hg⟩
        replace x0 := hg.cell x0 (by simp); replace x1 := hg.cell x1 (by simp); replace x2 := hg.cell x2 (by simp); replace x3 := hg.cell x3 (by simp); replace x4 := hg.cell x4 (by simp); replace x5 := hg.cell x5 (by simp); replace y0 := hg.cell y0 (by simp); replace y1 := hg.cell y1 (by simp); replace y2 := hg.cell y2 (by simp); replace y3 := hg.cell y3 (by simp); replace y4 := hg.cell y4 (by simp); replace y5 := hg.cell y5 (by simp); replace z0 := hg.cell z0 (by simp); replace z1 := hg.cell z1 (by simp); replace z2 := hg.cell z2 (by simp); replace hW := grown_trans hW hg
        clear hg
        rw [decide_eq_true hx]
        go_wp2_with fail
        refine (HZ1.out _ hW).mono ?_
        rintro e w2 ⟨rfl, hg⟩
        replace x0 := hg.cell x0 (by simp); replace x1 := hg.cell x1 (by simp); replace x2 := hg.cell x2 (by simp); replace x3 := hg.cell x3 (by simp); replace x4 := hg.cell x4 (by simp); replace x5 := hg.cell x5 (by simp); replace y0 := hg.cell y0 (by simp); replace y1 := hg.cell y1 (by simp); replace y2 := hg.cell y2 (by simp); replace y3 := hg.cell y3 (by simp); replace y4 := hg.cell y4 (by simp); replace y5 := hg.cell y5 (by simp); replace z0 := hg.cell z0 (by simp); replace z1 := hg.cell z1 (by simp); replace z2 := hg.cell z2 (by simp); replace hW := grown_trans hW hg
        clear hg
        go_wp2_with fail
        refine (alive4 (HT.out.keep hW)).mono ?_
        rintro e w3 ⟨rfl, hg⟩
        go_wp2_with fail
        go_ret
        exact ⟨rfl, grown_trans hW hg⟩
      · have hZ0 := HZ2 rfl
        clear HZ2 HZ
        by_cases hle : maxR A [X] ≤ minR B [Y]
        · have HLE := hid hle
          clear hle
          go_enter Tryz.func4, Tryz.ntmps4
          go_wp2_with fail
          refine HS.out.mono ?_
          rintro e w0 ⟨rfl, hg⟩
          have x0 : w0.cell? ⟨w.heap.size, 0, none⟩ = some (.bool g1) := hg.cell (by simp [go_sem, World.cell?_alloc_past]) (by simp)
          have x1 : w0.cell? ⟨w.heap.size, 1, none⟩ = some (.slice p1 n1 c1) := hg.cell (by simp [go_sem, World.cell?_alloc_past]) (by simp)
          have x2 : w0.cell? ⟨w.heap.size, 2, none⟩ = some (.slice q1 m1 d1) := hg.cell (by simp [go_sem, World.cell?_alloc_past]) (by simp)
          have x3 : w0.cell? ⟨w.heap.size, 3, none⟩ = some (.bool g2) := hg.cell (by simp [go_sem, World.cell?_alloc_past]) (by simp)
          have x4 : w0.cell? ⟨w.heap.size, 4, none⟩ = some (.slice p2 n2 c2) := hg.cell (by simp [go_sem, World.cell?_alloc_past]) (by simp)
          have x5 : w0.cell? ⟨w.heap.size, 5, none⟩ = some (.slice q2 m2 d2) := hg.cell (by simp [go_sem, World.cell?_alloc_past]) (by simp)
          have y0 : w0.cell? ⟨w.heap.size + 1, 0, none⟩ = some (.bool g3) := hg.cell (by simp [go_sem, World.cell?_alloc_past]) (by simp)
          have y1 : w0.cell? ⟨w.heap.size + 1, 1, none⟩ = some (.slice p3 n3 c3) := hg.cell (by simp [go_sem, World.cell?_alloc_past]) (by simp)
          have y2 : w0.cell? ⟨w.heap.size + 1, 2, none⟩ = some (.slice q3 m3 d3) := hg.cell (by simp [go_sem, World.cell?_alloc_past]) (by simp)
          have y3 : w0.cell? ⟨w.heap.size + 1, 3, none⟩ = some (.bool g4) := hg.cell (by simp [go_sem, World.cell?_alloc_past]) (by simp)
          have y4 : w0.cell? ⟨w.heap.size + 1, 4, none⟩ = some (.slice p4 n4 c4) := hg.cell (by simp [go_sem, World.cell?_alloc_past]) (by simp)
          have y5 : w0.cell? ⟨w.heap.size + 1, 5, none⟩ = some (.slice q4 m4 d4) := hg.cell (by simp [go_sem, World.cell?_alloc_past]) (by simp)
          have z0 : w0.cell? ⟨w.heap.size + 1 + 1, 0, none⟩ = some (.bool g5) := hg.cell (by simp [go_sem, World.cell?_alloc_past]) (by simp)
          have z1 : w0.cell? ⟨w.heap.size + 1 + 1, 1, none⟩ = some (.slice p5 n5 c5) := hg.cell (by simp [go_sem, World.cell?_alloc_past]) (by simp)
          have z2 : w0.cell? ⟨w.heap.size + 1 + 1, 2, none⟩ = some (.slice q5 m5 d5) := hg.cell (by simp [go_sem, World.cell?_alloc_past]) (by simp)
          replace hg := grown_trans hW3 hg
          have hW := hg
          clear hg HS hW3
          go_wp2_with fail
          refine (short4_one g5 p5 n5 c5 q5 m5 d5 w0 _ rfl).mono ?_
          rintro e w1 ⟨rfl, hg⟩
          replace x0 := hg.cell x0 (by simp); replace x1 := hg.cell x1 (by simp); replace x2 := hg.cell x2 (by simp); replace x3 := hg.cell x3 (by simp); replace x4 := hg.cell x4 (by simp); replace x5 := hg.cell x5 (by simp); replace y0 := hg.cell y0 (by simp); replace y1 := hg.cell y1 (by simp); replace y2 := hg.cell y2 (by simp); replace y3 := hg.cell y3 (by simp); replace y4 := hg.cell y4 (by simp); replace y5 := hg.cell y5 (by simp); replace z0 := hg.cell z0 (by simp); replace z1 := hg.cell z1 (by simp); replace z2 := hg.cell z2 (by simp); replace hW := grown_trans hW hg
          clear hg
          rw [decide_eq_true hx]
          go_wp2_with fail
          refine (HZ1.out _ hW).mono ?_
          rintro e w2 ⟨rfl, hg⟩
          replace x0 := hg.cell x0 (by simp); replace x1 := hg.cell x1 (by simp); replace x2 := hg.cell x2 (by simp); replace x3 := hg.cell x3 (by simp); replace x4 := hg.cell x4 (by simp); replace x5 := hg.cell x5 (by simp); replace y0 := hg.cell y0 (by simp); replace y1 := hg.cell y1 (by simp); replace y2 := hg.cell y2 (by simp); replace y3 := hg.cell y3 (by simp); replace y4 := hg.cell y4 (by simp); replace y5 := hg.cell y5 (by simp); replace z0 := hg.cell z0 (by simp); replace z1 := hg.cell z1 (by simp); replace z2 := hg.cell z2 (by simp); replace hW := grown_trans hW hg
          clear hg
          have hA := hA0.keep hW; have hB := hB0.keep hW; have hX := hX0.keep hW; have hY := hY0.keep hW; have hZ := hZ0.keep hW
          clear hA0 hB0 hX0 hY0 hZ0 HZ1
          go_wp2_with fail
          refine (ivMeet_v 8 hA hB hX hY (by omega) (by omega) (by omega) (by omega) (by omega) (by omega) (by omega) (by omega) (by omega) HLE).mono ?_
          rintro e w3 ⟨g16, g17, p16, q16, p17, q17, n16, c16, m16, d16, n17, c17, m17, d17, rfl, uP, uQ, ⟨hn16, hm16⟩, ⟨hn17, hm17⟩, hg⟩
          replace hA := hA.keep hg; replace hB := hB.keep hg; replace hX := hX.keep hg; replace hY := hY.keep hg; replace hZ := hZ.keep hg; replace x0 := hg.cell x0 (by simp); replace x1 := hg.cell x1 (by simp); replace x2 := hg.cell x2 (by simp); replace x3 := hg.cell x3 (by simp); replace x4 := hg.cell x4 (by simp); replace x5 := hg.cell x5 (by simp); replace y0 := hg.cell y0 (by simp); replace y1 := hg.cell y1 (by simp); replace y2 := hg.cell y2 (by simp); replace y3 := hg.cell y3 (by simp); replace y4 := hg.cell y4 (by simp); replace y5 := hg.cell y5 (by simp); replace z0 := hg.cell z0 (by simp); replace z1 := hg.cell z1 (by simp); replace z2 := hg.cell z2 (by simp); replace hW := grown_trans hW hg
          clear hg
          have hg := World.grownBy_alloc w3 (.cells #[.bool g16, .slice p16 n16 c16, .slice q16 m16 d16, .bool g17, .slice p17 n17 c17, .slice q17 m17 d17] 31) none
          have hb := heap_alloc_new w3 (.cells #[.bool g16, .slice p16 n16 c16, .slice q16 m16 d16, .bool g17, .slice p17 n17 c17, .slice q17 m17 d17] 31)
          obtain ⟨⟨s0, s1, s2, s3, s4, s5⟩, _⟩ := ivbox_facts hb
          clear hb
          replace hA := hA.keep hg; replace hB := hB.keep hg; replace hX := hX.keep hg; replace hY := hY.keep hg; replace hZ := hZ.keep hg; replace uP := uP.keep hg; replace uQ := uQ.keep hg; replace x0 := hg.cell x0 (by simp); replace x1 := hg.cell x1 (by simp); replace x2 := hg.cell x2 (by simp); replace x3 := hg.cell x3 (by simp); replace x4 := hg.cell x4 (by simp); replace x5 := hg.cell x5 (by simp); replace y0 := hg.cell y0 (by simp); replace y1 := hg.cell y1 (by simp); replace y2 := hg.cell y2 (by simp); replace y3 := hg.cell y3 (by simp); replace y4 := hg.cell y4 (by simp); replace y5 := hg.cell y5 (by simp); replace z0 := hg.cell z0 (by simp); replace z1 := hg.cell z1 (by simp); replace z2 := hg.cell z2 (by simp); replace hW := grown_trans hW hg
          clear hg
          go_wp2_with fail
          generalize w3.alloc (.cells #[.bool g16, .slice p16 n16 c16, .slice q16 m16 d16, .bool g17, .slice p17 n17 c17, .slice q17 m17 d17] 31) = wa at *
          generalize w3.heap.size = K1 at *
          refine (rIvMeet_v 8 hA hB hX hY (by omega) (by omega) (by omega) (by omega) (by omega) (by omega) (by omega) (by omega) (by omega) HLE).mono ?_
          rintro e w4 ⟨g18, g19, p18, q18, p19, q19, n18, c18, m18, d18, n19, c19, m19, d19, rfl, vP, vQ, ⟨hn18, hm18⟩, ⟨hn19, hm19⟩, hg⟩
          replace hA := hA.keep hg; replace hB := hB.keep hg; replace hX := hX.keep hg; replace hY := hY.keep hg; replace hZ := hZ.keep hg; replace uP := uP.keep hg; replace uQ := uQ.keep hg; replace x0 := hg.cell x0 (by simp); replace x1 := hg.cell x1 (by simp); replace x2 := hg.cell x2 (by simp); replace x3 := hg.cell x3 (by simp); replace x4 := hg.cell x4 (by simp); replace x5 := hg.cell x5 (by simp); replace y0 := hg.cell y0 (by simp); replace y1 := hg.cell y1 (by simp); replace y2 := hg.cell y2 (by simp); replace y3 := hg.cell y3 (by simp); replace y4 := hg.cell y4 (by simp); replace y5 := hg.cell y5 (by simp); replace z0 := hg.cell z0 (by simp); replace z1 := hg.cell z1 (by simp); replace z2 := hg.cell z2 (by simp); replace s0 := hg.cell s0 (by simp); replace s1 := hg.cell s1 (by simp); replace s2 := hg.cell s2 (by simp); replace s3 := hg.cell s3 (by simp); replace s4 := hg.cell s4 (by simp); replace s5 := hg.cell s5 (by simp); replace hW := grown_trans hW hg
          clear hg
          have hg := World.grownBy_alloc w4 (.cells #[.bool g18, .slice p18 n18 c18, .slice q18 m18 d18, .bool g19, .slice p19 n19 c19, .slice q19 m19 d19] 31) none
          have hb := heap_alloc_new w4 (.cells #[.bool g18, .slice p18 n18 c18, .slice q18 m18 d18, .bool g19, .slice p19 n19 c19, .slice q19 m19 d19] 31)
          obtain ⟨⟨t0, t1, t2, t3, t4, t5⟩, _⟩ := ivbox_facts hb
          clear hb
          replace hA := hA.keep hg; replace hB := hB.keep hg; replace hX := hX.keep hg; replace hY := hY.keep hg; replace hZ := hZ.keep hg; replace uP := uP.keep hg; replace uQ := uQ.keep hg; replace vP := vP.keep hg; replace vQ := vQ.keep hg; replace x0 := hg.cell x0 (by simp); replace x1 := hg.cell x1 (by simp); replace x2 := hg.cell x2 (by simp); replace x3 := hg.cell x3 (by simp); replace x4 := hg.cell x4 (by simp); replace x5 := hg.cell x5 (by simp); replace y0 := hg.cell y0 (by simp); replace y1 := hg.cell y1 (by simp); replace y2 := hg.cell y2 (by simp); replace y3 := hg.cell y3 (by simp); replace y4 := hg.cell y4 (by simp); replace y5 := hg.cell y5 (by simp); replace z0 := hg.cell z0 (by simp); replace z1 := hg.cell z1 (by simp); replace z2 := hg.cell z2 (by simp); replace s0 := hg.cell s0 (by simp); replace s1 := hg.cell s1 (by simp); replace s2 := hg.cell s2 (by simp); replace s3 := hg.cell s3 (by simp); replace s4 := hg.cell s4 (by simp); replace s5 := hg.cell s5 (by simp); replace hW := grown_trans hW hg
          clear hg
          go_wp2_with fail
          generalize w4.alloc (.cells #[.bool g18, .slice p18 n18 c18, .slice q18 m18 d18, .bool g19, .slice p19 n19 c19, .slice q19 m19 d19] 31) = wb at *
          generalize w4.heap.size = K2 at *
          refine (ivSign_v 8 hA.q hB.q (by omega) (by omega) (by omega) (by omega) (by omega)).mono ?_
          rintro e w5 ⟨rfl, hg⟩
          replace hA := hA.keep hg; replace hB := hB.keep hg; replace hX := hX.keep hg; replace hY := hY.keep hg; replace hZ := hZ.keep hg; replace uP := uP.keep hg; replace uQ := uQ.keep hg; replace vP := vP.keep hg; replace vQ := vQ.keep hg; replace x0 := hg.cell x0 (by simp); replace x1 := hg.cell x1 (by simp); replace x2 := hg.cell x2 (by simp); replace x3 := hg.cell x3 (by simp); replace x4 := hg.cell x4 (by simp); replace x5 := hg.cell x5 (by simp); replace y0 := hg.cell y0 (by simp); replace y1 := hg.cell y1 (by simp); replace y2 := hg.cell y2 (by simp); replace y3 := hg.cell y3 (by simp); replace y4 := hg.cell y4 (by simp); replace y5 := hg.cell y5 (by simp); replace z0 := hg.cell z0 (by simp); replace z1 := hg.cell z1 (by simp); replace z2 := hg.cell z2 (by simp); replace s0 := hg.cell s0 (by simp); replace s1 := hg.cell s1 (by simp); replace s2 := hg.cell s2 (by simp); replace s3 := hg.cell s3 (by simp); replace s4 := hg.cell s4 (by simp); replace s5 := hg.cell s5 (by simp); replace t0 := hg.cell t0 (by simp); replace t1 := hg.cell t1 (by simp); replace t2 := hg.cell t2 (by simp); replace t3 := hg.cell t3 (by simp); replace t4 := hg.cell t4 (by simp); replace t5 := hg.cell t5 (by simp); replace hW := grown_trans hW hg
          clear hg
          go_wp2_with fail
          refine (rIvSign_v 8 hA.q hB.q (by omega) (by omega) (by omega) (by omega) (by omega)).mono ?_
          rintro e w6 ⟨rfl, hg⟩
          replace hA := hA.keep hg; replace hB := hB.keep hg; replace hX := hX.keep hg; replace hY := hY.keep hg; replace hZ := hZ.keep hg; replace uP := uP.keep hg; replace uQ := uQ.keep hg; replace vP := vP.keep hg; replace vQ := vQ.keep hg; replace x0 := hg.cell x0 (by simp); replace x1 := hg.cell x1 (by simp); replace x2 := hg.cell x2 (by simp); replace x3 := hg.cell x3 (by simp); replace x4 := hg.cell x4 (by simp); replace x5 := hg.cell x5 (by simp); replace y0 := hg.cell y0 (by simp); replace y1 := hg.cell y1 (by simp); replace y2 := hg.cell y2 (by simp); replace y3 := hg.cell y3 (by simp); replace y4 := hg.cell y4 (by simp); replace y5 := hg.cell y5 (by simp); replace z0 := hg.cell z0 (by simp); replace z1 := hg.cell z1 (by simp); replace z2 := hg.cell z2 (by simp); replace s0 := hg.cell s0 (by simp); replace s1 := hg.cell s1 (by simp); replace s2 := hg.cell s2 (by simp); replace s3 := hg.cell s3 (by simp); replace s4 := hg.cell s4 (by simp); replace s5 := hg.cell s5 (by simp); replace t0 := hg.cell t0 (by simp); replace t1 := hg.cell t1 (by simp); replace t2 := hg.cell t2 (by simp); replace t3 := hg.cell t3 (by simp); replace t4 := hg.cell t4 (by simp); replace t5 := hg.cell t5 (by simp); replace hW := grown_trans hW hg
          clear hg
          generalize sgV A B = sv at *
          generalize sgB A B = sb at *
          go_wp2_with fail
          have hg := grown_drew w6 none
          replace hA := hA.keep hg; replace hB := hB.keep hg; replace hX := hX.keep hg; replace hY := hY.keep hg; replace hZ := hZ.keep hg; replace uP := uP.keep hg; replace uQ := uQ.keep hg; replace vP := vP.keep hg; replace vQ := vQ.keep hg; replace x0 := hg.cell x0 (by simp); replace x1 := hg.cell x1 (by simp); replace x2 := hg.cell x2 (by simp); replace x3 := hg.cell x3 (by simp); replace x4 := hg.cell x4 (by simp); replace x5 := hg.cell x5 (by simp); replace y0 := hg.cell y0 (by simp); replace y1 := hg.cell y1 (by simp); replace y2 := hg.cell y2 (by simp); replace y3 := hg.cell y3 (by simp); replace y4 := hg.cell y4 (by simp); replace y5 := hg.cell y5 (by simp); replace z0 := hg.cell z0 (by simp); replace z1 := hg.cell z1 (by simp); replace z2 := hg.cell z2 (by simp); replace s0 := hg.cell s0 (by simp); replace s1 := hg.cell s1 (by simp); replace s2 := hg.cell s2 (by simp); replace s3 := hg.cell s3 (by simp); replace s4 := hg.cell s4 (by simp); replace s5 := hg.cell s5 (by simp); replace t0 := hg.cell t0 (by simp); replace t1 := hg.cell t1 (by simp); replace t2 := hg.cell t2 (by simp); replace t3 := hg.cell t3 (by simp); replace t4 := hg.cell t4 (by simp); replace t5 := hg.cell t5 (by simp); replace hW := grown_trans hW hg
          clear hg
          go_region_held3 (fun w' => w'.cell? ⟨w.heap.size, 0, none⟩ = some (.bool g1) ∧ w'.cell? ⟨w.heap.size, 1, none⟩ = some (.slice p1 n1 c1) ∧ w'.cell? ⟨w.heap.size, 2, none⟩ = some (.slice q1 m1 d1) ∧ w'.cell? ⟨w.heap.size, 3, none⟩ = some (.bool g2) ∧ w'.cell? ⟨w.heap.size, 4, none⟩ = some (.slice p2 n2 c2) ∧ w'.cell? ⟨w.heap.size, 5, none⟩ = some (.slice q2 m2 d2) ∧ w'.cell? ⟨w.heap.size + 1, 0, none⟩ = some (.bool g3) ∧ w'.cell? ⟨w.heap.size + 1, 1, none⟩ = some (.slice p3 n3 c3) ∧ w'.cell? ⟨w.heap.size + 1, 2, none⟩ = some (.slice q3 m3 d3) ∧ w'.cell? ⟨w.heap.size + 1, 3, none⟩ = some (.bool g4) ∧ w'.cell? ⟨w.heap.size + 1, 4, none⟩ = some (.slice p4 n4 c4) ∧ w'.cell? ⟨w.heap.size + 1, 5, none⟩ = some (.slice q4 m4 d4) ∧ w'.cell? ⟨w.heap.size + 1 + 1, 0, none⟩ = some (.bool g5) ∧ w'.cell? ⟨w.heap.size + 1 + 1, 1, none⟩ = some (.slice p5 n5 c5) ∧ w'.cell? ⟨w.heap.size + 1 + 1, 2, none⟩ = some (.slice q5 m5 d5) ∧ w'.cell? ⟨K1, 0, none⟩ = some (.bool g16) ∧ w'.cell? ⟨K1, 1, none⟩ = some (.slice p16 n16 c16) ∧ w'.cell? ⟨K1, 2, none⟩ = some (.slice q16 m16 d16) ∧ w'.cell? ⟨K1, 3, none⟩ = some (.bool g17) ∧ w'.cell? ⟨K1, 4, none⟩ = some (.slice p17 n17 c17) ∧ w'.cell? ⟨K1, 5, none⟩ = some (.slice q17 m17 d17) ∧ w'.cell? ⟨K2, 0, none⟩ = some (.bool g18) ∧ w'.cell? ⟨K2, 1, none⟩ = some (.slice p18 n18 c18) ∧ w'.cell? ⟨K2, 2, none⟩ = some (.slice q18 m18 d18) ∧ w'.cell? ⟨K2, 3, none⟩ = some (.bool g19) ∧ w'.cell? ⟨K2, 4, none⟩ = some (.slice p19 n19 c19) ∧ w'.cell? ⟨K2, 5, none⟩ = some (.slice q19 m19 d19)) ((try go_split_ands) <;> (repeat' apply And.intro) <;> (repeat (first | (with_reducible assumption) | (with_reducible refine (grown_setCell _ _ _).cell ?_ (by simp; omega)) | (with_reducible refine (World.grownBy_alloc _ _ none).cell ?_ (by simp)) | (with_reducible refine (grown_drew _ none).cell ?_ (by simp)))))
            (first
              | (go_at_call 21; (with_reducible refine (has_v 8 hA.q hB.q hZ.q (by omega) (by omega) (by omega) (by omega) (by omega) (by omega) (by omega)).mono ?_); rintro e w7 ⟨rfl, hg⟩; replace hA := hA.keep hg; replace hB := hB.keep hg; replace hX := hX.keep hg; replace hY := hY.keep hg; replace hZ := hZ.keep hg; replace uP := uP.keep hg; replace uQ := uQ.keep hg; replace vP := vP.keep hg; replace vQ := vQ.keep hg; replace x0 := hg.cell x0 (by simp); replace x1 := hg.cell x1 (by simp); replace x2 := hg.cell x2 (by simp); replace x3 := hg.cell x3 (by simp); replace x4 := hg.cell x4 (by simp); replace x5 := hg.cell x5 (by simp); replace y0 := hg.cell y0 (by simp); replace y1 := hg.cell y1 (by simp); replace y2 := hg.cell y2 (by simp); replace y3 := hg.cell y3 (by simp); replace y4 := hg.cell y4 (by simp); replace y5 := hg.cell y5 (by simp); replace z0 := hg.cell z0 (by simp); replace z1 := hg.cell z1 (by simp); replace z2 := hg.cell z2 (by simp); replace s0 := hg.cell s0 (by simp); replace s1 := hg.cell s1 (by simp); replace s2 := hg.cell s2 (by simp); replace s3 := hg.cell s3 (by simp); replace s4 := hg.cell s4 (by simp); replace s5 := hg.cell s5 (by simp); replace t0 := hg.cell t0 (by simp); replace t1 := hg.cell t1 (by simp); replace t2 := hg.cell t2 (by simp); replace t3 := hg.cell t3 (by simp); replace t4 := hg.cell t4 (by simp); replace t5 := hg.cell t5 (by simp); replace hW := grown_trans hW hg; clear hg)
              | (go_at_call 22; (with_reducible refine (rHas_v 8 hA.q hB.q hZ.q (by omega) (by omega) (by omega) (by omega) (by omega) (by omega) (by omega)).mono ?_); rintro e w8 ⟨rfl, hg⟩; replace hA := hA.keep hg; replace hB := hB.keep hg; replace hX := hX.keep hg; replace hY := hY.keep hg; replace hZ := hZ.keep hg; replace uP := uP.keep hg; replace uQ := uQ.keep hg; replace vP := vP.keep hg; replace vQ := vQ.keep hg; replace x0 := hg.cell x0 (by simp); replace x1 := hg.cell x1 (by simp); replace x2 := hg.cell x2 (by simp); replace x3 := hg.cell x3 (by simp); replace x4 := hg.cell x4 (by simp); replace x5 := hg.cell x5 (by simp); replace y0 := hg.cell y0 (by simp); replace y1 := hg.cell y1 (by simp); replace y2 := hg.cell y2 (by simp); replace y3 := hg.cell y3 (by simp); replace y4 := hg.cell y4 (by simp); replace y5 := hg.cell y5 (by simp); replace z0 := hg.cell z0 (by simp); replace z1 := hg.cell z1 (by simp); replace z2 := hg.cell z2 (by simp); replace s0 := hg.cell s0 (by simp); replace s1 := hg.cell s1 (by simp); replace s2 := hg.cell s2 (by simp); replace s3 := hg.cell s3 (by simp); replace s4 := hg.cell s4 (by simp); replace s5 := hg.cell s5 (by simp); replace t0 := hg.cell t0 (by simp); replace t1 := hg.cell t1 (by simp); replace t2 := hg.cell t2 (by simp); replace t3 := hg.cell t3 (by simp); replace t4 := hg.cell t4 (by simp); replace t5 := hg.cell t5 (by simp); replace hW := grown_trans hW hg; clear hg)
              | (go_at_call 10; (with_reducible refine (same4_any uP.nm uP.dn uQ.nm uQ.dn vP.nm vP.dn vQ.nm vQ.dn).mono ?_); rintro e w9 ⟨rfl, hg⟩; replace hA := hA.keep hg; replace hB := hB.keep hg; replace hX := hX.keep hg; replace hY := hY.keep hg; replace hZ := hZ.keep hg; replace uP := uP.keep hg; replace uQ := uQ.keep hg; replace vP := vP.keep hg; replace vQ := vQ.keep hg; replace x0 := hg.cell x0 (by simp); replace x1 := hg.cell x1 (by simp); replace x2 := hg.cell x2 (by simp); replace x3 := hg.cell x3 (by simp); replace x4 := hg.cell x4 (by simp); replace x5 := hg.cell x5 (by simp); replace y0 := hg.cell y0 (by simp); replace y1 := hg.cell y1 (by simp); replace y2 := hg.cell y2 (by simp); replace y3 := hg.cell y3 (by simp); replace y4 := hg.cell y4 (by simp); replace y5 := hg.cell y5 (by simp); replace z0 := hg.cell z0 (by simp); replace z1 := hg.cell z1 (by simp); replace z2 := hg.cell z2 (by simp); replace s0 := hg.cell s0 (by simp); replace s1 := hg.cell s1 (by simp); replace s2 := hg.cell s2 (by simp); replace s3 := hg.cell s3 (by simp); replace s4 := hg.cell s4 (by simp); replace s5 := hg.cell s5 (by simp); replace t0 := hg.cell t0 (by simp); replace t1 := hg.cell t1 (by simp); replace t2 := hg.cell t2 (by simp); replace t3 := hg.cell t3 (by simp); replace t4 := hg.cell t4 (by simp); replace t5 := hg.cell t5 (by simp); replace hW := grown_trans hW hg; clear hg)
              | (go_at_call 23; (with_reducible refine (ivHull_v 8 hA hB hX hY (by omega) (by omega) (by omega) (by omega) (by omega) (by omega) (by omega) (by omega) (by omega)).mono ?_); rintro e w10 ⟨g30, g31, p30, q30, p31, q31, n30, c30, m30, d30, n31, c31, m31, d31, rfl, aP, aQ, ⟨hn30, hm30⟩, ⟨hn31, hm31⟩, hg⟩; replace hA := hA.keep hg; replace hB := hB.keep hg; replace hX := hX.keep hg; replace hY := hY.keep hg; replace hZ := hZ.keep hg; replace uP := uP.keep hg; replace uQ := uQ.keep hg; replace vP := vP.keep hg; replace vQ := vQ.keep hg; replace x0 := hg.cell x0 (by simp); replace x1 := hg.cell x1 (by simp); replace x2 := hg.cell x2 (by simp); replace x3 := hg.cell x3 (by simp); replace x4 := hg.cell x4 (by simp); replace x5 := hg.cell x5 (by simp); replace y0 := hg.cell y0 (by simp); replace y1 := hg.cell y1 (by simp); replace y2 := hg.cell y2 (by simp); replace y3 := hg.cell y3 (by simp); replace y4 := hg.cell y4 (by simp); replace y5 := hg.cell y5 (by simp); replace z0 := hg.cell z0 (by simp); replace z1 := hg.cell z1 (by simp); replace z2 := hg.cell z2 (by simp); replace s0 := hg.cell s0 (by simp); replace s1 := hg.cell s1 (by simp); replace s2 := hg.cell s2 (by simp); replace s3 := hg.cell s3 (by simp); replace s4 := hg.cell s4 (by simp); replace s5 := hg.cell s5 (by simp); replace t0 := hg.cell t0 (by simp); replace t1 := hg.cell t1 (by simp); replace t2 := hg.cell t2 (by simp); replace t3 := hg.cell t3 (by simp); replace t4 := hg.cell t4 (by simp); replace t5 := hg.cell t5 (by simp); replace hW := grown_trans hW hg; clear hg)
              | (go_at_call 24; (with_reducible refine (rIvHull_v 8 hA hB hX hY (by omega) (by omega) (by omega) (by omega) (by omega) (by omega) (by omega) (by omega) (by omega)).mono ?_); rintro e w11 ⟨g32, g33, p32, q32, p33, q33, n32, c32, m32, d32, n33, c33, m33, d33, rfl, bP, bQ, ⟨hn32, hm32⟩, ⟨hn33, hm33⟩, hg⟩; replace hA := hA.keep hg; replace hB := hB.keep hg; replace hX := hX.keep hg; replace hY := hY.keep hg; replace hZ := hZ.keep hg; replace uP := uP.keep hg; replace uQ := uQ.keep hg; replace vP := vP.keep hg; replace vQ := vQ.keep hg; replace aP := aP.keep hg; replace aQ := aQ.keep hg; replace x0 := hg.cell x0 (by simp); replace x1 := hg.cell x1 (by simp); replace x2 := hg.cell x2 (by simp); replace x3 := hg.cell x3 (by simp); replace x4 := hg.cell x4 (by simp); replace x5 := hg.cell x5 (by simp); replace y0 := hg.cell y0 (by simp); replace y1 := hg.cell y1 (by simp); replace y2 := hg.cell y2 (by simp); replace y3 := hg.cell y3 (by simp); replace y4 := hg.cell y4 (by simp); replace y5 := hg.cell y5 (by simp); replace z0 := hg.cell z0 (by simp); replace z1 := hg.cell z1 (by simp); replace z2 := hg.cell z2 (by simp); replace s0 := hg.cell s0 (by simp); replace s1 := hg.cell s1 (by simp); replace s2 := hg.cell s2 (by simp); replace s3 := hg.cell s3 (by simp); replace s4 := hg.cell s4 (by simp); replace s5 := hg.cell s5 (by simp); replace t0 := hg.cell t0 (by simp); replace t1 := hg.cell t1 (by simp); replace t2 := hg.cell t2 (by simp); replace t3 := hg.cell t3 (by simp); replace t4 := hg.cell t4 (by simp); replace t5 := hg.cell t5 (by simp); replace hW := grown_trans hW hg; clear hg)
              | (go_at_call 10; (with_reducible refine (same4_any aP.nm aP.dn aQ.nm aQ.dn bP.nm bP.dn bQ.nm bQ.dn).mono ?_); rintro e w12 ⟨rfl, hg⟩; replace hA := hA.keep hg; replace hB := hB.keep hg; replace hX := hX.keep hg; replace hY := hY.keep hg; replace hZ := hZ.keep hg; replace uP := uP.keep hg; replace uQ := uQ.keep hg; replace vP := vP.keep hg; replace vQ := vQ.keep hg; replace aP := aP.keep hg; replace aQ := aQ.keep hg; replace bP := bP.keep hg; replace bQ := bQ.keep hg; replace x0 := hg.cell x0 (by simp); replace x1 := hg.cell x1 (by simp); replace x2 := hg.cell x2 (by simp); replace x3 := hg.cell x3 (by simp); replace x4 := hg.cell x4 (by simp); replace x5 := hg.cell x5 (by simp); replace y0 := hg.cell y0 (by simp); replace y1 := hg.cell y1 (by simp); replace y2 := hg.cell y2 (by simp); replace y3 := hg.cell y3 (by simp); replace y4 := hg.cell y4 (by simp); replace y5 := hg.cell y5 (by simp); replace z0 := hg.cell z0 (by simp); replace z1 := hg.cell z1 (by simp); replace z2 := hg.cell z2 (by simp); replace s0 := hg.cell s0 (by simp); replace s1 := hg.cell s1 (by simp); replace s2 := hg.cell s2 (by simp); replace s3 := hg.cell s3 (by simp); replace s4 := hg.cell s4 (by simp); replace s5 := hg.cell s5 (by simp); replace t0 := hg.cell t0 (by simp); replace t1 := hg.cell t1 (by simp); replace t2 := hg.cell t2 (by simp); replace t3 := hg.cell t3 (by simp); replace t4 := hg.cell t4 (by simp); replace t5 := hg.cell t5 (by simp); replace hW := grown_trans hW hg; clear hg)
              | (go_at_call 7; (with_reducible refine (alive4 (HT.out.keep hW)).mono ?_); rintro e w13 ⟨rfl, hg⟩; replace hA := hA.keep hg; replace hB := hB.keep hg; replace hX := hX.keep hg; replace hY := hY.keep hg; replace hZ := hZ.keep hg; replace uP := uP.keep hg; replace uQ := uQ.keep hg; replace vP := vP.keep hg; replace vQ := vQ.keep hg; replace aP := aP.keep hg; replace aQ := aQ.keep hg; replace bP := bP.keep hg; replace bQ := bQ.keep hg; replace x0 := hg.cell x0 (by simp); replace x1 := hg.cell x1 (by simp); replace x2 := hg.cell x2 (by simp); replace x3 := hg.cell x3 (by simp); replace x4 := hg.cell x4 (by simp); replace x5 := hg.cell x5 (by simp); replace y0 := hg.cell y0 (by simp); replace y1 := hg.cell y1 (by simp); replace y2 := hg.cell y2 (by simp); replace y3 := hg.cell y3 (by simp); replace y4 := hg.cell y4 (by simp); replace y5 := hg.cell y5 (by simp); replace z0 := hg.cell z0 (by simp); replace z1 := hg.cell z1 (by simp); replace z2 := hg.cell z2 (by simp); replace s0 := hg.cell s0 (by simp); replace s1 := hg.cell s1 (by simp); replace s2 := hg.cell s2 (by simp); replace s3 := hg.cell s3 (by simp); replace s4 := hg.cell s4 (by simp); replace s5 := hg.cell s5 (by simp); replace t0 := hg.cell t0 (by simp); replace t1 := hg.cell t1 (by simp); replace t2 := hg.cell t2 (by simp); replace t3 := hg.cell t3 (by simp); replace t4 := hg.cell t4 (by simp); replace t5 := hg.cell t5 (by simp); replace hW := grown_trans hW hg; clear hg))
          go_wp2_with fail
          go_ret
          exact ⟨rfl, hW⟩
        · have HLE := hid hle
          clear hle
          go_enter Tryz.func4, Tryz.ntmps4
          go_wp2_with fail
          refine HS.out.mono ?_
          rintro e w0 ⟨rfl, hg⟩
          have x0 : w0.cell? ⟨w.heap.size, 0, none⟩ = some (.bool g1) := hg.cell (by simp [go_sem, World.cell?_alloc_past]) (by simp)
          have x1 : w0.cell? ⟨w.heap.size, 1, none⟩ = some (.slice p1 n1 c1) := hg.cell (by simp [go_sem, World.cell?_alloc_past]) (by simp)
          have x2 : w0.cell? ⟨w.heap.size, 2, none⟩ = some (.slice q1 m1 d1) := hg.cell (by simp [go_sem, World.cell?_alloc_past]) (by simp)
          have x3 : w0.cell? ⟨w.heap.size, 3, none⟩ = some (.bool g2) := hg.cell (by simp [go_sem, World.cell?_alloc_past]) (by simp)
          have x4 : w0.cell? ⟨w.heap.size, 4, none⟩ = some (.slice p2 n2 c2) := hg.cell (by simp [go_sem, World.cell?_alloc_past]) (by simp)
          have x5 : w0.cell? ⟨w.heap.size, 5, none⟩ = some (.slice q2 m2 d2) := hg.cell (by simp [go_sem, World.cell?_alloc_past]) (by simp)
          have y0 : w0.cell? ⟨w.heap.size + 1, 0, none⟩ = some (.bool g3) := hg.cell (by simp [go_sem, World.cell?_alloc_past]) (by simp)
          have y1 : w0.cell? ⟨w.heap.size + 1, 1, none⟩ = some (.slice p3 n3 c3) := hg.cell (by simp [go_sem, World.cell?_alloc_past]) (by simp)
          have y2 : w0.cell? ⟨w.heap.size + 1, 2, none⟩ = some (.slice q3 m3 d3) := hg.cell (by simp [go_sem, World.cell?_alloc_past]) (by simp)
          have y3 : w0.cell? ⟨w.heap.size + 1, 3, none⟩ = some (.bool g4) := hg.cell (by simp [go_sem, World.cell?_alloc_past]) (by simp)
          have y4 : w0.cell? ⟨w.heap.size + 1, 4, none⟩ = some (.slice p4 n4 c4) := hg.cell (by simp [go_sem, World.cell?_alloc_past]) (by simp)
          have y5 : w0.cell? ⟨w.heap.size + 1, 5, none⟩ = some (.slice q4 m4 d4) := hg.cell (by simp [go_sem, World.cell?_alloc_past]) (by simp)
          have z0 : w0.cell? ⟨w.heap.size + 1 + 1, 0, none⟩ = some (.bool g5) := hg.cell (by simp [go_sem, World.cell?_alloc_past]) (by simp)
          have z1 : w0.cell? ⟨w.heap.size + 1 + 1, 1, none⟩ = some (.slice p5 n5 c5) := hg.cell (by simp [go_sem, World.cell?_alloc_past]) (by simp)
          have z2 : w0.cell? ⟨w.heap.size + 1 + 1, 2, none⟩ = some (.slice q5 m5 d5) := hg.cell (by simp [go_sem, World.cell?_alloc_past]) (by simp)
          replace hg := grown_trans hW3 hg
          have hW := hg
          clear hg HS hW3
          go_wp2_with fail
          refine (short4_one g5 p5 n5 c5 q5 m5 d5 w0 _ rfl).mono ?_
          rintro e w1 ⟨rfl, hg⟩
          replace x0 := hg.cell x0 (by simp); replace x1 := hg.cell x1 (by simp); replace x2 := hg.cell x2 (by simp); replace x3 := hg.cell x3 (by simp); replace x4 := hg.cell x4 (by simp); replace x5 := hg.cell x5 (by simp); replace y0 := hg.cell y0 (by simp); replace y1 := hg.cell y1 (by simp); replace y2 := hg.cell y2 (by simp); replace y3 := hg.cell y3 (by simp); replace y4 := hg.cell y4 (by simp); replace y5 := hg.cell y5 (by simp); replace z0 := hg.cell z0 (by simp); replace z1 := hg.cell z1 (by simp); replace z2 := hg.cell z2 (by simp); replace hW := grown_trans hW hg
          clear hg
          rw [decide_eq_true hx]
          go_wp2_with fail
          refine (HZ1.out _ hW).mono ?_
          rintro e w2 ⟨rfl, hg⟩
          replace x0 := hg.cell x0 (by simp); replace x1 := hg.cell x1 (by simp); replace x2 := hg.cell x2 (by simp); replace x3 := hg.cell x3 (by simp); replace x4 := hg.cell x4 (by simp); replace x5 := hg.cell x5 (by simp); replace y0 := hg.cell y0 (by simp); replace y1 := hg.cell y1 (by simp); replace y2 := hg.cell y2 (by simp); replace y3 := hg.cell y3 (by simp); replace y4 := hg.cell y4 (by simp); replace y5 := hg.cell y5 (by simp); replace z0 := hg.cell z0 (by simp); replace z1 := hg.cell z1 (by simp); replace z2 := hg.cell z2 (by simp); replace hW := grown_trans hW hg
          clear hg
          have hA := hA0.keep hW; have hB := hB0.keep hW; have hX := hX0.keep hW; have hY := hY0.keep hW; have hZ := hZ0.keep hW
          clear hA0 hB0 hX0 hY0 hZ0 HZ1
          go_wp2_with fail
          refine (ivMeet_e 8 hA hB hX hY (by omega) (by omega) (by omega) (by omega) (by omega) (by omega) (by omega) (by omega) (by omega) HLE).mono ?_
          rintro e w3 ⟨rfl, hg⟩
          replace hA := hA.keep hg; replace hB := hB.keep hg; replace hX := hX.keep hg; replace hY := hY.keep hg; replace hZ := hZ.keep hg; replace x0 := hg.cell x0 (by simp); replace x1 := hg.cell x1 (by simp); replace x2 := hg.cell x2 (by simp); replace x3 := hg.cell x3 (by simp); replace x4 := hg.cell x4 (by simp); replace x5 := hg.cell x5 (by simp); replace y0 := hg.cell y0 (by simp); replace y1 := hg.cell y1 (by simp); replace y2 := hg.cell y2 (by simp); replace y3 := hg.cell y3 (by simp); replace y4 := hg.cell y4 (by simp); replace y5 := hg.cell y5 (by simp); replace z0 := hg.cell z0 (by simp); replace z1 := hg.cell z1 (by simp); replace z2 := hg.cell z2 (by simp); replace hW := grown_trans hW hg
          clear hg
          have hg := World.grownBy_alloc w3 (.cells #[.bool false, .slice none 0 0, .slice none 0 0, .bool false, .slice none 0 0, .slice none 0 0] 31) none
          have hb := heap_alloc_new w3 (.cells #[.bool false, .slice none 0 0, .slice none 0 0, .bool false, .slice none 0 0, .slice none 0 0] 31)
          obtain ⟨⟨s0, s1, s2, s3, s4, s5⟩, _⟩ := ivbox_facts hb
          clear hb
          replace hA := hA.keep hg; replace hB := hB.keep hg; replace hX := hX.keep hg; replace hY := hY.keep hg; replace hZ := hZ.keep hg; replace x0 := hg.cell x0 (by simp); replace x1 := hg.cell x1 (by simp); replace x2 := hg.cell x2 (by simp); replace x3 := hg.cell x3 (by simp); replace x4 := hg.cell x4 (by simp); replace x5 := hg.cell x5 (by simp); replace y0 := hg.cell y0 (by simp); replace y1 := hg.cell y1 (by simp); replace y2 := hg.cell y2 (by simp); replace y3 := hg.cell y3 (by simp); replace y4 := hg.cell y4 (by simp); replace y5 := hg.cell y5 (by simp); replace z0 := hg.cell z0 (by simp); replace z1 := hg.cell z1 (by simp); replace z2 := hg.cell z2 (by simp); replace hW := grown_trans hW hg
          clear hg
          go_wp2_with fail
          generalize w3.alloc (.cells #[.bool false, .slice none 0 0, .slice none 0 0, .bool false, .slice none 0 0, .slice none 0 0] 31) = wa at *
          generalize w3.heap.size = K1 at *
          refine (rIvMeet_e 8 hA hB hX hY (by omega) (by omega) (by omega) (by omega) (by omega) (by omega) (by omega) (by omega) (by omega) HLE).mono ?_
          rintro e w4 ⟨rfl, hg⟩
          replace hA := hA.keep hg; replace hB := hB.keep hg; replace hX := hX.keep hg; replace hY := hY.keep hg; replace hZ := hZ.keep hg; replace x0 := hg.cell x0 (by simp); replace x1 := hg.cell x1 (by simp); replace x2 := hg.cell x2 (by simp); replace x3 := hg.cell x3 (by simp); replace x4 := hg.cell x4 (by simp); replace x5 := hg.cell x5 (by simp); replace y0 := hg.cell y0 (by simp); replace y1 := hg.cell y1 (by simp); replace y2 := hg.cell y2 (by simp); replace y3 := hg.cell y3 (by simp); replace y4 := hg.cell y4 (by simp); replace y5 := hg.cell y5 (by simp); replace z0 := hg.cell z0 (by simp); replace z1 := hg.cell z1 (by simp); replace z2 := hg.cell z2 (by simp); replace s0 := hg.cell s0 (by simp); replace s1 := hg.cell s1 (by simp); replace s2 := hg.cell s2 (by simp); replace s3 := hg.cell s3 (by simp); replace s4 := hg.cell s4 (by simp); replace s5 := hg.cell s5 (by simp); replace hW := grown_trans hW hg
          clear hg
          have hg := World.grownBy_alloc w4 (.cells #[.bool false, .slice none 0 0, .slice none 0 0, .bool false, .slice none 0 0, .slice none 0 0] 31) none
          have hb := heap_alloc_new w4 (.cells #[.bool false, .slice none 0 0, .slice none 0 0, .bool false, .slice none 0 0, .slice none 0 0] 31)
          obtain ⟨⟨t0, t1, t2, t3, t4, t5⟩, _⟩ := ivbox_facts hb
          clear hb
          replace hA := hA.keep hg; replace hB := hB.keep hg; replace hX := hX.keep hg; replace hY := hY.keep hg; replace hZ := hZ.keep hg; replace x0 := hg.cell x0 (by simp); replace x1 := hg.cell x1 (by simp); replace x2 := hg.cell x2 (by simp); replace x3 := hg.cell x3 (by simp); replace x4 := hg.cell x4 (by simp); replace x5 := hg.cell x5 (by simp); replace y0 := hg.cell y0 (by simp); replace y1 := hg.cell y1 (by simp); replace y2 := hg.cell y2 (by simp); replace y3 := hg.cell y3 (by simp); replace y4 := hg.cell y4 (by simp); replace y5 := hg.cell y5 (by simp); replace z0 := hg.cell z0 (by simp); replace z1 := hg.cell z1 (by simp); replace z2 := hg.cell z2 (by simp); replace s0 := hg.cell s0 (by simp); replace s1 := hg.cell s1 (by simp); replace s2 := hg.cell s2 (by simp); replace s3 := hg.cell s3 (by simp); replace s4 := hg.cell s4 (by simp); replace s5 := hg.cell s5 (by simp); replace hW := grown_trans hW hg
          clear hg
          go_wp2_with fail
          generalize w4.alloc (.cells #[.bool false, .slice none 0 0, .slice none 0 0, .bool false, .slice none 0 0, .slice none 0 0] 31) = wb at *
          generalize w4.heap.size = K2 at *
          refine (ivSign_v 8 hA.q hB.q (by omega) (by omega) (by omega) (by omega) (by omega)).mono ?_
          rintro e w5 ⟨rfl, hg⟩
          replace hA := hA.keep hg; replace hB := hB.keep hg; replace hX := hX.keep hg; replace hY := hY.keep hg; replace hZ := hZ.keep hg; replace x0 := hg.cell x0 (by simp); replace x1 := hg.cell x1 (by simp); replace x2 := hg.cell x2 (by simp); replace x3 := hg.cell x3 (by simp); replace x4 := hg.cell x4 (by simp); replace x5 := hg.cell x5 (by simp); replace y0 := hg.cell y0 (by simp); replace y1 := hg.cell y1 (by simp); replace y2 := hg.cell y2 (by simp); replace y3 := hg.cell y3 (by simp); replace y4 := hg.cell y4 (by simp); replace y5 := hg.cell y5 (by simp); replace z0 := hg.cell z0 (by simp); replace z1 := hg.cell z1 (by simp); replace z2 := hg.cell z2 (by simp); replace s0 := hg.cell s0 (by simp); replace s1 := hg.cell s1 (by simp); replace s2 := hg.cell s2 (by simp); replace s3 := hg.cell s3 (by simp); replace s4 := hg.cell s4 (by simp); replace s5 := hg.cell s5 (by simp); replace t0 := hg.cell t0 (by simp); replace t1 := hg.cell t1 (by simp); replace t2 := hg.cell t2 (by simp); replace t3 := hg.cell t3 (by simp); replace t4 := hg.cell t4 (by simp); replace t5 := hg.cell t5 (by simp); replace hW := grown_trans hW hg
          clear hg
          go_wp2_with fail
          refine (rIvSign_v 8 hA.q hB.q (by omega) (by omega) (by omega) (by omega) (by omega)).mono ?_
          rintro e w6 ⟨rfl, hg⟩
          replace hA := hA.keep hg; replace hB := hB.keep hg; replace hX := hX.keep hg; replace hY := hY.keep hg; replace hZ := hZ.keep hg; replace x0 := hg.cell x0 (by simp); replace x1 := hg.cell x1 (by simp); replace x2 := hg.cell x2 (by simp); replace x3 := hg.cell x3 (by simp); replace x4 := hg.cell x4 (by simp); replace x5 := hg.cell x5 (by simp); replace y0 := hg.cell y0 (by simp); replace y1 := hg.cell y1 (by simp); replace y2 := hg.cell y2 (by simp); replace y3 := hg.cell y3 (by simp); replace y4 := hg.cell y4 (by simp); replace y5 := hg.cell y5 (by simp); replace z0 := hg.cell z0 (by simp); replace z1 := hg.cell z1 (by simp); replace z2 := hg.cell z2 (by simp); replace s0 := hg.cell s0 (by simp); replace s1 := hg.cell s1 (by simp); replace s2 := hg.cell s2 (by simp); replace s3 := hg.cell s3 (by simp); replace s4 := hg.cell s4 (by simp); replace s5 := hg.cell s5 (by simp); replace t0 := hg.cell t0 (by simp); replace t1 := hg.cell t1 (by simp); replace t2 := hg.cell t2 (by simp); replace t3 := hg.cell t3 (by simp); replace t4 := hg.cell t4 (by simp); replace t5 := hg.cell t5 (by simp); replace hW := grown_trans hW hg
          clear hg
          generalize sgV A B = sv at *
          generalize sgB A B = sb at *
          go_wp2_with fail
          have hg := grown_drew w6 none
          replace hA := hA.keep hg; replace hB := hB.keep hg; replace hX := hX.keep hg; replace hY := hY.keep hg; replace hZ := hZ.keep hg; replace x0 := hg.cell x0 (by simp); replace x1 := hg.cell x1 (by simp); replace x2 := hg.cell x2 (by simp); replace x3 := hg.cell x3 (by simp); replace x4 := hg.cell x4 (by simp); replace x5 := hg.cell x5 (by simp); replace y0 := hg.cell y0 (by simp); replace y1 := hg.cell y1 (by simp); replace y2 := hg.cell y2 (by simp); replace y3 := hg.cell y3 (by simp); replace y4 := hg.cell y4 (by simp); replace y5 := hg.cell y5 (by simp); replace z0 := hg.cell z0 (by simp); replace z1 := hg.cell z1 (by simp); replace z2 := hg.cell z2 (by simp); replace s0 := hg.cell s0 (by simp); replace s1 := hg.cell s1 (by simp); replace s2 := hg.cell s2 (by simp); replace s3 := hg.cell s3 (by simp); replace s4 := hg.cell s4 (by simp); replace s5 := hg.cell s5 (by simp); replace t0 := hg.cell t0 (by simp); replace t1 := hg.cell t1 (by simp); replace t2 := hg.cell t2 (by simp); replace t3 := hg.cell t3 (by simp); replace t4 := hg.cell t4 (by simp); replace t5 := hg.cell t5 (by simp); replace hW := grown_trans hW hg
          clear hg
          go_region_held3 (fun w' => w'.cell? ⟨w.heap.size, 0, none⟩ = some (.bool g1) ∧ w'.cell? ⟨w.heap.size, 1, none⟩ = some (.slice p1 n1 c1) ∧ w'.cell? ⟨w.heap.size, 2, none⟩ = some (.slice q1 m1 d1) ∧ w'.cell? ⟨w.heap.size, 3, none⟩ = some (.bool g2) ∧ w'.cell? ⟨w.heap.size, 4, none⟩ = some (.slice p2 n2 c2) ∧ w'.cell? ⟨w.heap.size, 5, none⟩ = some (.slice q2 m2 d2) ∧ w'.cell? ⟨w.heap.size + 1, 0, none⟩ = some (.bool g3) ∧ w'.cell? ⟨w.heap.size + 1, 1, none⟩ = some (.slice p3 n3 c3) ∧ w'.cell? ⟨w.heap.size + 1, 2, none⟩ = some (.slice q3 m3 d3) ∧ w'.cell? ⟨w.heap.size + 1, 3, none⟩ = some (.bool g4) ∧ w'.cell? ⟨w.heap.size + 1, 4, none⟩ = some (.slice p4 n4 c4) ∧ w'.cell? ⟨w.heap.size + 1, 5, none⟩ = some (.slice q4 m4 d4) ∧ w'.cell? ⟨w.heap.size + 1 + 1, 0, none⟩ = some (.bool g5) ∧ w'.cell? ⟨w.heap.size + 1 + 1, 1, none⟩ = some (.slice p5 n5 c5) ∧ w'.cell? ⟨w.heap.size + 1 + 1, 2, none⟩ = some (.slice q5 m5 d5) ∧ w'.cell? ⟨K1, 0, none⟩ = some (.bool false) ∧ w'.cell? ⟨K1, 1, none⟩ = some (.slice none 0 0) ∧ w'.cell? ⟨K1, 2, none⟩ = some (.slice none 0 0) ∧ w'.cell? ⟨K1, 3, none⟩ = some (.bool false) ∧ w'.cell? ⟨K1, 4, none⟩ = some (.slice none 0 0) ∧ w'.cell? ⟨K1, 5, none⟩ = some (.slice none 0 0) ∧ w'.cell? ⟨K2, 0, none⟩ = some (.bool false) ∧ w'.cell? ⟨K2, 1, none⟩ = some (.slice none 0 0) ∧ w'.cell? ⟨K2, 2, none⟩ = some (.slice none 0 0) ∧ w'.cell? ⟨K2, 3, none⟩ = some (.bool false) ∧ w'.cell? ⟨K2, 4, none⟩ = some (.slice none 0 0) ∧ w'.cell? ⟨K2, 5, none⟩ = some (.slice none 0 0)) ((try go_split_ands) <;> (repeat' apply And.intro) <;> (repeat (first | (with_reducible assumption) | (with_reducible refine (grown_setCell _ _ _).cell ?_ (by simp; omega)) | (with_reducible refine (World.grownBy_alloc _ _ none).cell ?_ (by simp)) | (with_reducible refine (grown_drew _ none).cell ?_ (by simp)))))
            (first
              | (go_at_call 21; (with_reducible refine (has_v 8 hA.q hB.q hZ.q (by omega) (by omega) (by omega) (by omega) (by omega) (by omega) (by omega)).mono ?_); rintro e w7 ⟨rfl, hg⟩; replace hA := hA.keep hg; replace hB := hB.keep hg; replace hX := hX.keep hg; replace hY := hY.keep hg; replace hZ := hZ.keep hg; replace x0 := hg.cell x0 (by simp); replace x1 := hg.cell x1 (by simp); replace x2 := hg.cell x2 (by simp); replace x3 := hg.cell x3 (by simp); replace x4 := hg.cell x4 (by simp); replace x5 := hg.cell x5 (by simp); replace y0 := hg.cell y0 (by simp); replace y1 := hg.cell y1 (by simp); replace y2 := hg.cell y2 (by simp); replace y3 := hg.cell y3 (by simp); replace y4 := hg.cell y4 (by simp); replace y5 := hg.cell y5 (by simp); replace z0 := hg.cell z0 (by simp); replace z1 := hg.cell z1 (by simp); replace z2 := hg.cell z2 (by simp); replace s0 := hg.cell s0 (by simp); replace s1 := hg.cell s1 (by simp); replace s2 := hg.cell s2 (by simp); replace s3 := hg.cell s3 (by simp); replace s4 := hg.cell s4 (by simp); replace s5 := hg.cell s5 (by simp); replace t0 := hg.cell t0 (by simp); replace t1 := hg.cell t1 (by simp); replace t2 := hg.cell t2 (by simp); replace t3 := hg.cell t3 (by simp); replace t4 := hg.cell t4 (by simp); replace t5 := hg.cell t5 (by simp); replace hW := grown_trans hW hg; clear hg)
              | (go_at_call 22; (with_reducible refine (rHas_v 8 hA.q hB.q hZ.q (by omega) (by omega) (by omega) (by omega) (by omega) (by omega) (by omega)).mono ?_); rintro e w8 ⟨rfl, hg⟩; replace hA := hA.keep hg; replace hB := hB.keep hg; replace hX := hX.keep hg; replace hY := hY.keep hg; replace hZ := hZ.keep hg; replace x0 := hg.cell x0 (by simp); replace x1 := hg.cell x1 (by simp); replace x2 := hg.cell x2 (by simp); replace x3 := hg.cell x3 (by simp); replace x4 := hg.cell x4 (by simp); replace x5 := hg.cell x5 (by simp); replace y0 := hg.cell y0 (by simp); replace y1 := hg.cell y1 (by simp); replace y2 := hg.cell y2 (by simp); replace y3 := hg.cell y3 (by simp); replace y4 := hg.cell y4 (by simp); replace y5 := hg.cell y5 (by simp); replace z0 := hg.cell z0 (by simp); replace z1 := hg.cell z1 (by simp); replace z2 := hg.cell z2 (by simp); replace s0 := hg.cell s0 (by simp); replace s1 := hg.cell s1 (by simp); replace s2 := hg.cell s2 (by simp); replace s3 := hg.cell s3 (by simp); replace s4 := hg.cell s4 (by simp); replace s5 := hg.cell s5 (by simp); replace t0 := hg.cell t0 (by simp); replace t1 := hg.cell t1 (by simp); replace t2 := hg.cell t2 (by simp); replace t3 := hg.cell t3 (by simp); replace t4 := hg.cell t4 (by simp); replace t5 := hg.cell t5 (by simp); replace hW := grown_trans hW hg; clear hg)
              | (go_at_call 10; (with_reducible refine (same4_any (IsI.zero _) (IsC.nil _) (IsI.zero _) (IsC.nil _) (IsI.zero _) (IsC.nil _) (IsI.zero _) (IsC.nil _)).mono ?_); rintro e w9 ⟨rfl, hg⟩; replace hA := hA.keep hg; replace hB := hB.keep hg; replace hX := hX.keep hg; replace hY := hY.keep hg; replace hZ := hZ.keep hg; replace x0 := hg.cell x0 (by simp); replace x1 := hg.cell x1 (by simp); replace x2 := hg.cell x2 (by simp); replace x3 := hg.cell x3 (by simp); replace x4 := hg.cell x4 (by simp); replace x5 := hg.cell x5 (by simp); replace y0 := hg.cell y0 (by simp); replace y1 := hg.cell y1 (by simp); replace y2 := hg.cell y2 (by simp); replace y3 := hg.cell y3 (by simp); replace y4 := hg.cell y4 (by simp); replace y5 := hg.cell y5 (by simp); replace z0 := hg.cell z0 (by simp); replace z1 := hg.cell z1 (by simp); replace z2 := hg.cell z2 (by simp); replace s0 := hg.cell s0 (by simp); replace s1 := hg.cell s1 (by simp); replace s2 := hg.cell s2 (by simp); replace s3 := hg.cell s3 (by simp); replace s4 := hg.cell s4 (by simp); replace s5 := hg.cell s5 (by simp); replace t0 := hg.cell t0 (by simp); replace t1 := hg.cell t1 (by simp); replace t2 := hg.cell t2 (by simp); replace t3 := hg.cell t3 (by simp); replace t4 := hg.cell t4 (by simp); replace t5 := hg.cell t5 (by simp); replace hW := grown_trans hW hg; clear hg)
              | (go_at_call 23; (with_reducible refine (ivHull_v 8 hA hB hX hY (by omega) (by omega) (by omega) (by omega) (by omega) (by omega) (by omega) (by omega) (by omega)).mono ?_); rintro e w10 ⟨g30, g31, p30, q30, p31, q31, n30, c30, m30, d30, n31, c31, m31, d31, rfl, aP, aQ, ⟨hn30, hm30⟩, ⟨hn31, hm31⟩, hg⟩; replace hA := hA.keep hg; replace hB := hB.keep hg; replace hX := hX.keep hg; replace hY := hY.keep hg; replace hZ := hZ.keep hg; replace x0 := hg.cell x0 (by simp); replace x1 := hg.cell x1 (by simp); replace x2 := hg.cell x2 (by simp); replace x3 := hg.cell x3 (by simp); replace x4 := hg.cell x4 (by simp); replace x5 := hg.cell x5 (by simp); replace y0 := hg.cell y0 (by simp); replace y1 := hg.cell y1 (by simp); replace y2 := hg.cell y2 (by simp); replace y3 := hg.cell y3 (by simp); replace y4 := hg.cell y4 (by simp); replace y5 := hg.cell y5 (by simp); replace z0 := hg.cell z0 (by simp); replace z1 := hg.cell z1 (by simp); replace z2 := hg.cell z2 (by simp); replace s0 := hg.cell s0 (by simp); replace s1 := hg.cell s1 (by simp); replace s2 := hg.cell s2 (by simp); replace s3 := hg.cell s3 (by simp); replace s4 := hg.cell s4 (by simp); replace s5 := hg.cell s5 (by simp); replace t0 := hg.cell t0 (by simp); replace t1 := hg.cell t1 (by simp); replace t2 := hg.cell t2 (by simp); replace t3 := hg.cell t3 (by simp); replace t4 := hg.cell t4 (by simp); replace t5 := hg.cell t5 (by simp); replace hW := grown_trans hW hg; clear hg)
              | (go_at_call 24; (with_reducible refine (rIvHull_v 8 hA hB hX hY (by omega) (by omega) (by omega) (by omega) (by omega) (by omega) (by omega) (by omega) (by omega)).mono ?_); rintro e w11 ⟨g32, g33, p32, q32, p33, q33, n32, c32, m32, d32, n33, c33, m33, d33, rfl, bP, bQ, ⟨hn32, hm32⟩, ⟨hn33, hm33⟩, hg⟩; replace hA := hA.keep hg; replace hB := hB.keep hg; replace hX := hX.keep hg; replace hY := hY.keep hg; replace hZ := hZ.keep hg; replace aP := aP.keep hg; replace aQ := aQ.keep hg; replace x0 := hg.cell x0 (by simp); replace x1 := hg.cell x1 (by simp); replace x2 := hg.cell x2 (by simp); replace x3 := hg.cell x3 (by simp); replace x4 := hg.cell x4 (by simp); replace x5 := hg.cell x5 (by simp); replace y0 := hg.cell y0 (by simp); replace y1 := hg.cell y1 (by simp); replace y2 := hg.cell y2 (by simp); replace y3 := hg.cell y3 (by simp); replace y4 := hg.cell y4 (by simp); replace y5 := hg.cell y5 (by simp); replace z0 := hg.cell z0 (by simp); replace z1 := hg.cell z1 (by simp); replace z2 := hg.cell z2 (by simp); replace s0 := hg.cell s0 (by simp); replace s1 := hg.cell s1 (by simp); replace s2 := hg.cell s2 (by simp); replace s3 := hg.cell s3 (by simp); replace s4 := hg.cell s4 (by simp); replace s5 := hg.cell s5 (by simp); replace t0 := hg.cell t0 (by simp); replace t1 := hg.cell t1 (by simp); replace t2 := hg.cell t2 (by simp); replace t3 := hg.cell t3 (by simp); replace t4 := hg.cell t4 (by simp); replace t5 := hg.cell t5 (by simp); replace hW := grown_trans hW hg; clear hg)
              | (go_at_call 10; (with_reducible refine (same4_any aP.nm aP.dn aQ.nm aQ.dn bP.nm bP.dn bQ.nm bQ.dn).mono ?_); rintro e w12 ⟨rfl, hg⟩; replace hA := hA.keep hg; replace hB := hB.keep hg; replace hX := hX.keep hg; replace hY := hY.keep hg; replace hZ := hZ.keep hg; replace aP := aP.keep hg; replace aQ := aQ.keep hg; replace bP := bP.keep hg; replace bQ := bQ.keep hg; replace x0 := hg.cell x0 (by simp); replace x1 := hg.cell x1 (by simp); replace x2 := hg.cell x2 (by simp); replace x3 := hg.cell x3 (by simp); replace x4 := hg.cell x4 (by simp); replace x5 := hg.cell x5 (by simp); replace y0 := hg.cell y0 (by simp); replace y1 := hg.cell y1 (by simp); replace y2 := hg.cell y2 (by simp); replace y3 := hg.cell y3 (by simp); replace y4 := hg.cell y4 (by simp); replace y5 := hg.cell y5 (by simp); replace z0 := hg.cell z0 (by simp); replace z1 := hg.cell z1 (by simp); replace z2 := hg.cell z2 (by simp); replace s0 := hg.cell s0 (by simp); replace s1 := hg.cell s1 (by simp); replace s2 := hg.cell s2 (by simp); replace s3 := hg.cell s3 (by simp); replace s4 := hg.cell s4 (by simp); replace s5 := hg.cell s5 (by simp); replace t0 := hg.cell t0 (by simp); replace t1 := hg.cell t1 (by simp); replace t2 := hg.cell t2 (by simp); replace t3 := hg.cell t3 (by simp); replace t4 := hg.cell t4 (by simp); replace t5 := hg.cell t5 (by simp); replace hW := grown_trans hW hg; clear hg)
              | (go_at_call 7; (with_reducible refine (alive4 (HT.out.keep hW)).mono ?_); rintro e w13 ⟨rfl, hg⟩; replace hA := hA.keep hg; replace hB := hB.keep hg; replace hX := hX.keep hg; replace hY := hY.keep hg; replace hZ := hZ.keep hg; replace aP := aP.keep hg; replace aQ := aQ.keep hg; replace bP := bP.keep hg; replace bQ := bQ.keep hg; replace x0 := hg.cell x0 (by simp); replace x1 := hg.cell x1 (by simp); replace x2 := hg.cell x2 (by simp); replace x3 := hg.cell x3 (by simp); replace x4 := hg.cell x4 (by simp); replace x5 := hg.cell x5 (by simp); replace y0 := hg.cell y0 (by simp); replace y1 := hg.cell y1 (by simp); replace y2 := hg.cell y2 (by simp); replace y3 := hg.cell y3 (by simp); replace y4 := hg.cell y4 (by simp); replace y5 := hg.cell y5 (by simp); replace z0 := hg.cell z0 (by simp); replace z1 := hg.cell z1 (by simp); replace z2 := hg.cell z2 (by simp); replace s0 := hg.cell s0 (by simp); replace s1 := hg.cell s1 (by simp); replace s2 := hg.cell s2 (by simp); replace s3 := hg.cell s3 (by simp); replace s4 := hg.cell s4 (by simp); replace s5 := hg.cell s5 (by simp); replace t0 := hg.cell t0 (by simp); replace t1 := hg.cell t1 (by simp); replace t2 := hg.cell t2 (by simp); replace t3 := hg.cell t3 (by simp); replace t4 := hg.cell t4 (by simp); replace t5 := hg.cell t5 (by simp); replace hW := grown_trans hW hg; clear hg))
          go_wp2_with fail
          go_ret
          exact ⟨rfl, hW⟩
    · go_enter Tryz.func4, Tryz.ntmps4
      go_wp2_with fail
      refine HS.out.mono ?_
      rintro e w0 ⟨rfl, hg⟩
      have x0 : w0.cell? ⟨w.heap.size, 0, none⟩ = some (.bool g1) := hg.cell (by simp [go_sem, World.cell?_alloc_past]) (by simp)
      have x1 : w0.cell? ⟨w.heap.size, 1, none⟩ = some (.slice p1 n1 c1) := hg.cell (by simp [go_sem, World.cell?_alloc_past]) (by simp)
      have x2 : w0.cell? ⟨w.heap.size, 2, none⟩ = some (.slice q1 m1 d1) := hg.cell (by simp [go_sem, World.cell?_alloc_past]) (by simp)
      have x3 : w0.cell? ⟨w.heap.size, 3, none⟩ = some (.bool g2) := hg.cell (by simp [go_sem, World.cell?_alloc_past]) (by simp)
      have x4 : w0.cell? ⟨w.heap.size, 4, none⟩ = some (.slice p2 n2 c2) := hg.cell (by simp [go_sem, World.cell?_alloc_past]) (by simp)
      have x5 : w0.cell? ⟨w.heap.size, 5, none⟩ = some (.slice q2 m2 d2) := hg.cell (by simp [go_sem, World.cell?_alloc_past]) (by simp)
      have y0 : w0.cell? ⟨w.heap.size + 1, 0, none⟩ = some (.bool g3) := hg.cell (by simp [go_sem, World.cell?_alloc_past]) (by simp)
      have y1 : w0.cell? ⟨w.heap.size + 1, 1, none⟩ = some (.slice p3 n3 c3) := hg.cell (by simp [go_sem, World.cell?_alloc_past]) (by simp)
      have y2 : w0.cell? ⟨w.heap.size + 1, 2, none⟩ = some (.slice q3 m3 d3) := hg.cell (by simp [go_sem, World.cell?_alloc_past]) (by simp)
      have y3 : w0.cell? ⟨w.heap.size + 1, 3, none⟩ = some (.bool g4) := hg.cell (by simp [go_sem, World.cell?_alloc_past]) (by simp)
      have y4 : w0.cell? ⟨w.heap.size + 1, 4, none⟩ = some (.slice p4 n4 c4) := hg.cell (by simp [go_sem, World.cell?_alloc_past]) (by simp)
      have y5 : w0.cell? ⟨w.heap.size + 1, 5, none⟩ = some (.slice q4 m4 d4) := hg.cell (by simp [go_sem, World.cell?_alloc_past]) (by simp)
      have z0 : w0.cell? ⟨w.heap.size + 1 + 1, 0, none⟩ = some (.bool g5) := hg.cell (by simp [go_sem, World.cell?_alloc_past]) (by simp)
      have z1 : w0.cell? ⟨w.heap.size + 1 + 1, 1, none⟩ = some (.slice p5 n5 c5) := hg.cell (by simp [go_sem, World.cell?_alloc_past]) (by simp)
      have z2 : w0.cell? ⟨w.heap.size + 1 + 1, 2, none⟩ = some (.slice q5 m5 d5) := hg.cell (by simp [go_sem, World.cell?_alloc_past]) (by simp)
      replace hg := grown_trans hW3 hg
      have hW := hg
      clear hg HS hW3
      go_wp2_with fail
      refine (short4_one g5 p5 n5 c5 q5 m5 d5 w0 _ rfl).mono ?_
      rintro e w1 ⟨rfl, hg⟩
      replace x0 := hg.cell x0 (by simp); replace x1 := hg.cell x1 (by simp); replace x2 := hg.cell x2 (by simp); replace x3 := hg.cell x3 (by simp); replace x4 := hg.cell x4 (by simp); replace x5 := hg.cell x5 (by simp); replace y0 := hg.cell y0 (by simp); replace y1 := hg.cell y1 (by simp); replace y2 := hg.cell y2 (by simp); replace y3 := hg.cell y3 (by simp); replace y4 := hg.cell y4 (by simp); replace y5 := hg.cell y5 (by simp); replace z0 := hg.cell z0 (by simp); replace z1 := hg.cell z1 (by simp); replace z2 := hg.cell z2 (by simp); replace hW := grown_trans hW hg
      clear hg
      rw [decide_eq_false hx]
      go_wp2_with fail
      refine (alive4 (HT.out.keep hW)).mono ?_
      rintro e w2 ⟨rfl, hg⟩
      go_wp2_with fail
      go_ret
      exact ⟨rfl, grown_trans hW hg⟩
  · rw [decide_eq_false hok] at HS
    replace HS := hid HS
    go_enter Tryz.func4, Tryz.ntmps4
    go_wp2_with fail
    refine HS.out.mono ?_
    rintro e w0 ⟨rfl, hg⟩
    have x0 : w0.cell? ⟨w.heap.size, 0, none⟩ = some (.bool g1) := hg.cell (by simp [go_sem, World.cell?_alloc_past]) (by simp)
    have x1 : w0.cell? ⟨w.heap.size, 1, none⟩ = some (.slice p1 n1 c1) := hg.cell (by simp [go_sem, World.cell?_alloc_past]) (by simp)
    have x2 : w0.cell? ⟨w.heap.size, 2, none⟩ = some (.slice q1 m1 d1) := hg.cell (by simp [go_sem, World.cell?_alloc_past]) (by simp)
    have x3 : w0.cell? ⟨w.heap.size, 3, none⟩ = some (.bool g2) := hg.cell (by simp [go_sem, World.cell?_alloc_past]) (by simp)
    have x4 : w0.cell? ⟨w.heap.size, 4, none⟩ = some (.slice p2 n2 c2) := hg.cell (by simp [go_sem, World.cell?_alloc_past]) (by simp)
    have x5 : w0.cell? ⟨w.heap.size, 5, none⟩ = some (.slice q2 m2 d2) := hg.cell (by simp [go_sem, World.cell?_alloc_past]) (by simp)
    have y0 : w0.cell? ⟨w.heap.size + 1, 0, none⟩ = some (.bool g3) := hg.cell (by simp [go_sem, World.cell?_alloc_past]) (by simp)
    have y1 : w0.cell? ⟨w.heap.size + 1, 1, none⟩ = some (.slice p3 n3 c3) := hg.cell (by simp [go_sem, World.cell?_alloc_past]) (by simp)
    have y2 : w0.cell? ⟨w.heap.size + 1, 2, none⟩ = some (.slice q3 m3 d3) := hg.cell (by simp [go_sem, World.cell?_alloc_past]) (by simp)
    have y3 : w0.cell? ⟨w.heap.size + 1, 3, none⟩ = some (.bool g4) := hg.cell (by simp [go_sem, World.cell?_alloc_past]) (by simp)
    have y4 : w0.cell? ⟨w.heap.size + 1, 4, none⟩ = some (.slice p4 n4 c4) := hg.cell (by simp [go_sem, World.cell?_alloc_past]) (by simp)
    have y5 : w0.cell? ⟨w.heap.size + 1, 5, none⟩ = some (.slice q4 m4 d4) := hg.cell (by simp [go_sem, World.cell?_alloc_past]) (by simp)
    have z0 : w0.cell? ⟨w.heap.size + 1 + 1, 0, none⟩ = some (.bool g5) := hg.cell (by simp [go_sem, World.cell?_alloc_past]) (by simp)
    have z1 : w0.cell? ⟨w.heap.size + 1 + 1, 1, none⟩ = some (.slice p5 n5 c5) := hg.cell (by simp [go_sem, World.cell?_alloc_past]) (by simp)
    have z2 : w0.cell? ⟨w.heap.size + 1 + 1, 2, none⟩ = some (.slice q5 m5 d5) := hg.cell (by simp [go_sem, World.cell?_alloc_past]) (by simp)
    replace hg := grown_trans hW3 hg
    have hW := hg
    clear hg HS hW3
    go_wp2_with fail
    refine (alive4 (HT.out.keep hW)).mono ?_
    rintro e w1 ⟨rfl, hg⟩
    go_wp2_with fail
    go_ret
    exact ⟨rfl, grown_trans hW hg⟩

theorem intervalParts_door (os : Os) (args : Array Value) : laidMetH Tryz.prog [("math/bits.deBruijn64tab", Rows.laid_math_bits_deBruijn64tab)] ((World.doorLaid Tryz.prog 400 os).forCall (fun _ _ => 0) ⟨#[], args, []⟩).memory :=
  laidMetH_of_parts3 (fuel := 8) (laidMet_of_run' 8 (by kernel_rfl) (by kernel_rfl)) (by kernel_rfl) (by kernel_rfl)

set_option maxRecDepth 100000 in
theorem intervalParts_lifted (os : Os) (started : os.Started) (H : Type) (enc : TypeId × Value → H) :
    ReturnsInHanded {} Tryz.checked os 4 .any (fun w args => (Rows.intervalPartsSpec.pre enc Tryz.prog Tryz.f4 [] false w args ∧ laidMetH Tryz.prog [("math/bits.deBruijn64tab", Rows.laid_math_bits_deBruijn64tab)] w) ∧ sizedMet enc Tryz.prog Tryz.f4 (OpenSpec.ofChange Rows.intervalPartsSpec) false w args)
      (Rows.intervalPartsSpec.post enc Tryz.prog Tryz.f4 false true false false) := by
  refine returnsInHanded_of_change_and (C := Tryz.checked) (X := fun w _ => laidMetH Tryz.prog [("math/bits.deBruijn64tab", Rows.laid_math_bits_deBruijn64tab)] w) (fun _ _ _ hh h => h.of_heap hh) own1 started (by kernel_rfl) Tryz.func4
    (ChangeSpec.witness_shaped (enc := enc) (C := Tryz.checked) (os := os) (X := fun w _ => laidMetH Tryz.prog [("math/bits.deBruijn64tab", Rows.laid_math_bits_deBruijn64tab)] w) false (World.doorLaid Tryz.prog 400 os) #[.agg #[.bool false, .slice none 0 0, .slice none 0 0, .bool false, .slice none 0 0, .slice none 0 0], .agg #[.bool false, .slice none 0 0, .slice none 0 0, .bool false, .slice none 0 0, .slice none 0 0], .agg #[.bool false, .slice none 0 0, .slice none 0 0]] 8 rfl (World.shaped_of_RefB (by kernel_rfl) (by kernel_rfl)) (by kernel_rfl) (by kernel_rfl) (by kernel_rfl) (intervalParts_door os _)) ?_
  intro W base args ds gs before hval0 hW _ _ hL _
  have hval : ∀ (j : Nat) t v, Tryz.f4.params[j]? = some t → args[j]? = some v → Value.okWide Tryz.prog W .any base t v := hval0
  have hW' := hW
  obtain ⟨p, q, hA0, hV, rfl, hfz, hnd⟩ := hW
  have hA : DataW.TrodAll enc Tryz.prog W 0 (fun _ => true) true Tryz.f4.params.toList args.toList ds p := hA0
  rw [Tryz.params4] at hA hval
  obtain ⟨v0, v1, v2, d0, d1, d2, p0, p1, p2, rfl, rfl, rfl, h0, h1, h2⟩ := trodAll_three hA
  obtain ⟨rfl, rfl⟩ := trodVars_none hV
  have hlt : ∀ x ∈ p0 ++ (p1 ++ (p2)), x.block < W.heap.size := fun x hx => hW'.lt x (by simpa using hx)
  obtain ⟨ga0, pa0, na0, ca0, xa0, qa0, ma0, da0, ya0, gb0, pb0, nb0, cb0, xb0, qb0, mb0, db0, yb0, rfl, r10, x10, s10, y10, r20, x20, s20, y20⟩ := open_Iv (hval 0 31 v0 rfl rfl) h0
  obtain ⟨ga1, pa1, na1, ca1, xa1, qa1, ma1, da1, ya1, gb1, pb1, nb1, cb1, xb1, qb1, mb1, db1, yb1, rfl, r11, x11, s11, y11, r21, x21, s21, y21⟩ := open_Iv (hval 1 31 v1 rfl rfl) h1
  obtain ⟨g2, r, l, k, zs, r', l', k', zs', rfl, hr2, hx2, hs2, hy2⟩ := open_Rat (hval 2 27 v2 rfl rfl) h2
  refine (intervalParts_walk ga0 gb0 ga1 gb1 g2 pa0 qa0 pb0 qb0 pa1 qa1 pb1 qb1 r r' na0 ca0 ma0 da0 nb0 cb0 mb0 db0 na1 ca1 ma1 da1 nb1 cb1 mb1 db1 l k l' k' _ _ _ _ _ W (tb_of_laid hL) (hid fun h1 h2 => have ⟨r, _, k1, k2⟩ := right3_full (tb_of_laid hL) ga0 r10 x10 s10 y10 (by omega) (by omega); ⟨r, k1, k2⟩) (hid fun h1 h2 => have ⟨r, _, k1, k2⟩ := right3_full (tb_of_laid hL) gb0 r20 x20 s20 y20 (by omega) (by omega); ⟨r, k1, k2⟩) (hid fun h1 h2 => have ⟨r, _, k1, k2⟩ := right3_full (tb_of_laid hL) ga1 r11 x11 s11 y11 (by omega) (by omega); ⟨r, k1, k2⟩) (hid fun h1 h2 => have ⟨r, _, k1, k2⟩ := right3_full (tb_of_laid hL) gb1 r21 x21 s21 y21 (by omega) (by omega); ⟨r, k1, k2⟩) (hid fun h1 h2 => have ⟨r, _, k1, k2⟩ := right3_full (tb_of_laid hL) g2 hr2 hx2 hs2 hy2 (by omega) (by omega); ⟨r, k1, k2⟩)).mono fun e W' ⟨he, hg⟩ => ?_
  subst he
  have hB := grown_below hg
  exact ⟨_, rfl, _, _, _, [], _, [], hW', trodAll_mk1 (shut_bool Tryz.underlying4 true),
    trodAll_mk3 (Below.trod laidOut1 readIv rowIv h0 hB fun x hx => hlt x (by simp [hx])) (Below.trod laidOut1 readIv rowIv h1 hB fun x hx => hlt x (by simp [hx])) (Below.trod laidOut1 readRat rowRat h2 hB fun x hx => hlt x (by simp [hx])), rfl, hB.frame _, fun h => by cases h⟩

theorem intervalParts_holds : Rows.IntervalPartsSaid :=
  OpenClaim.holds_of_wide 4 Tryz.f4 rfl rfl rfl rfl rfl rfl rfl ⟨rfl, rfl, rfl, rfl, rfl⟩ rfl rfl rfl rfl rfl (by kernel_rfl) Tryz.func4 (by kernel_rfl)
    (of_decide_eq_true (by kernel_rfl)) (by unfold Func.isWrapper; first | (rw [if_pos (by decide +kernel)]; kernel_rfl) | (rw [if_neg (by decide +kernel)]; exact ⟨rfl, rfl⟩))
    (fun os started H enc _ => intervalParts_lifted os started H enc)

theorem intervalParts_card : Rows.IntervalPartsCardSaid :=
  Claim7.holds_tied_plain_at .later [] [.data] true _ false
    intervalParts_holds (fun _ h => by cases h) (by kernel_rfl) (fun _ h => by cases h) intervalParts_row_tie rfl ⟨rfl, rfl⟩ (by kernel_rfl) rfl
    (fun f fn hf hfn => by
      obtain rfl : f = 4 := Option.some.inj ((show Tryz.prog.funcNamed "geoprover/geoproverlaw04.IntervalParts" = some 4 by kernel_rfl).symm.trans hf) |>.symm
      obtain rfl : fn = Tryz.f4 := (Option.some.inj (Tryz.func4.symm.trans hfn)).symm
      exact ⟨by kernel_rfl, fun j t ht => by
        rw [Tryz.params4] at ht
        have hm : t ∈ [31, 31, 27] := by simpa using Array.mem_of_getElem? ht
        have hall : ([31, 31, 27].all fun u => !Tryz.prog.wantsStandIn u) = true := by kernel_rfl
        exact (show Tryz.prog.wantsStandIn t = false by simpa using List.all_eq_true.1 hall t hm)⟩)
    (by kernel_rfl)

end Go.Proofs.YtocfklanejonkaaGreatDoor
