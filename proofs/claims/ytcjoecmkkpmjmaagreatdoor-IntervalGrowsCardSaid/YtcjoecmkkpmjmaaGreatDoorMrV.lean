/-
  IvA IvB IvC, in one text.
-/
import Derived.Test.YtcjoecmkkpmjmaaGreatDoorMrO
import Derived.Deep.AppendLies
import Derived.Lib.SliceRun
import Derived.Deep.RegionHeld3
import Derived.Deep.DeepCutAuto

set_option linter.unusedVariables false
set_option linter.unusedSimpArgs false
namespace Go.Proofs.YtcjoecmkkpmjmaaGreatDoor
open Go.RowKit Nm

theorem infoU16 : (Tryz.prog.info? 94).map (fun i => (i.zero, i.size, i.bytes)) = some (some (.int .u16 0), 1, 2) := by kernel_rfl
set_option maxHeartbeats 1000000 in
theorem cloneN_any (a : Option Addr) (n c : Nat) (xs : List Nat) (w : World) (h : IRd w .u16 a n c xs) (hn : n ≤ 1000000) :
    Calls Tryz.prog 147 #[.slice a n c] w fun e w' => ∃ p c', e = .returned (.slice p n c') ∧ IRd w' .u16 p n c' xs ∧ w.grownBy w' none := by
  have HL := hid h.len
  have hcap := h.cap
  have hmax := h.max
  cases a with
  | none =>
    have h0 : n = 0 := by
      rcases Nat.eq_zero_or_pos n with h0 | h0
      · exact h0
      · obtain ⟨b, o, e, _⟩ := h.cel 0 (by rw [HL.out]; exact h0)
        cases e
    subst h0
    obtain rfl : xs = [] := List.eq_nil_of_length_eq_zero HL.out
    have hq : ∀ w : World, (binOp .eql 23 (.slice none 0 c) (.slice none 0 0)).run Tryz.prog w = .ok (.bool true) w := fun w => Lib.run_eql_slice_nil w _ _ _ _ _ _ _ Tryz.underlying23
    go_enter Tryz.func147, Tryz.ntmps147
    go_wp2
    go_ret
    exact ⟨none, 0, rfl, IRd.nil _ _, grown_refl _ _⟩
  | some q =>
    have hq : ∀ w : World, (binOp .eql 23 (.slice (some q) n c) (.slice none 0 0)).run Tryz.prog w = .ok (.bool false) w := fun w => Lib.run_eql_slice_nil w _ _ _ _ _ _ _ Tryz.underlying23
    go_enter Tryz.func147, Tryz.ntmps147
    go_wp2_with (refine wl_append _ rfl (.tmp 5) (.tmp 6) 23 rfl 94 .u16 2 Tryz.underlying23 infoU16 w.heap.size _ 0 0 [] rfl (IOwn.made w w.heap.size 94 .u16 [] (Nat.le_refl _) (by simp)) _ n c xs rfl (h.keep (World.grownBy_alloc _ _ _)) (by omega) (by omega) w (World.grownBy_alloc _ _ _) (Nat.le_refl _) (by simp) ?_; intro p' c2 w1 ho hg)
    go_ret
    have := ho.rd
    simp only [List.nil_append, Nat.zero_add] at this
    exact ⟨p', c2, by simp, this, hg⟩
theorem cloneC_any {w : World} {p : Option Addr} {n c N : Nat} (h : IsC w p n c N) (hn : n ≤ 1000000) :
    Calls Tryz.prog 147 #[.slice p n c] w fun e w' => ∃ p' c', e = .returned (.slice p' n c') ∧ IsC w' p' n c' N ∧ w.grownBy w' none := cloneN_any p n c _ w h hn

/-- a valid interval is returned -/
def WPost (w : World) (lo hi : Rat) (B : Nat) (e : Ending) (w' : World) : Prop :=
  ∃ (g h : Bool) (p q r s : Option Addr) (n c m d k a l b : Nat), e = .returned (.agg #[.bool g, .slice p n c, .slice q m d, .bool h, .slice r k a, .slice s l b]) ∧ IsV w' g p n c q m d lo ∧ IsV w' h r k a s l b hi ∧ (n ≤ B ∧ m ≤ B) ∧ (k ≤ B ∧ l ≤ B) ∧ w.grownBy w' none

theorem ivbox_facts {w : World} {G : Nat} {x x' : Bool} {y z y' z' : Option Addr} {a b e f a' b' e' f' : Nat} {T : TypeId} (hb : w.heap[G]? = some (.cells #[.bool x, .slice y a b, .slice z e f, .bool x', .slice y' a' b', .slice z' e' f'] T (0, 0))) :
    (w.cell? ⟨G, 0, none⟩ = some (.bool x) ∧ w.cell? ⟨G, 1, none⟩ = some (.slice y a b) ∧ w.cell? ⟨G, 2, none⟩ = some (.slice z e f) ∧ w.cell? ⟨G, 3, none⟩ = some (.bool x') ∧ w.cell? ⟨G, 4, none⟩ = some (.slice y' a' b') ∧ w.cell? ⟨G, 5, none⟩ = some (.slice z' e' f')) ∧
    (w.frozen? ⟨G, 0, none⟩ = false ∧ w.frozen? ⟨G, 1, none⟩ = false ∧ w.frozen? ⟨G, 2, none⟩ = false ∧ w.frozen? ⟨G, 3, none⟩ = false ∧ w.frozen? ⟨G, 4, none⟩ = false ∧ w.frozen? ⟨G, 5, none⟩ = false) := by
  have k0 := cell_of_row w G 0 _ _ _ hb
  have k1 := cell_of_row w G 1 _ _ _ hb
  have k2 := cell_of_row w G 2 _ _ _ hb
  have k3 := cell_of_row w G 3 _ _ _ hb
  have k4 := cell_of_row w G 4 _ _ _ hb
  have k5 := cell_of_row w G 5 _ _ _ hb
  simp at k0 k1 k2 k3 k4 k5
  exact ⟨⟨k0, k1, k2, k3, k4, k5⟩, frozen_of_row w G 0 _ _ hb, frozen_of_row w G 1 _ _ hb, frozen_of_row w G 2 _ _ hb, frozen_of_row w G 3 _ _ hb, frozen_of_row w G 4 _ _ hb, frozen_of_row w G 5 _ _ hb⟩
theorem six_cells (x x' : Bool) (y z y' z' : Option Addr) (a b c d a' b' c' d' j : Nat) (k : IntKind) (t : Int) : (#[Value.bool x, Value.slice y a b, Value.slice z c d, Value.bool x', Value.slice y' a' b', Value.slice z' c' d'])[j]? ≠ some (.int k t) := by
  match j with
  | 0 => simp
  | 1 => simp
  | 2 => simp
  | 3 => simp
  | 4 => simp
  | 5 => simp
  | j + 6 => simp
theorem set6_grown (w : World) (G : Nat) (a b c d e f : Value) : w.grownBy ((((((w.setCell ⟨G, 0, none⟩ a).setCell ⟨G, 1, none⟩ b).setCell ⟨G, 2, none⟩ c).setCell ⟨G, 3, none⟩ d).setCell ⟨G, 4, none⟩ e).setCell ⟨G, 5, none⟩ f) (some G) :=
  grown_trans (set3_grown w G a b c) (grown_trans (grown_trans (grown_setCell _ ⟨G, 3, none⟩ d) (grown_setCell _ ⟨G, 4, none⟩ e)) (grown_setCell _ ⟨G, 5, none⟩ f))
theorem IsV.other6 {w w' : World} {g : Bool} {p q : Option Addr} {n c m d G : Nat} {v : Rat} {x x' : Bool} {y z y' z' : Option Addr} {a b e f a' b' e' f' : Nat} {T : TypeId} (h : IsV w g p n c q m d v) (hb : w.heap[G]? = some (.cells #[.bool x, .slice y a b, .slice z e f, .bool x', .slice y' a' b', .slice z' e' f'] T (0, 0))) (hg : w.grownBy w' (some G)) : IsV w' g p n c q m d v :=
  ⟨⟨IRd.other h.1.1 hb (fun j t => six_cells x x' y z y' z' a b e f a' b' e' f' j _ t) hg, h.1.2⟩, IRd.other h.2 hb (fun j t => six_cells x x' y z y' z' a b e f a' b' e' f' j _ t) hg⟩
theorem WPost.close {w w5 : World} {G : Nat} {x x' : Bool} {y z y' z' : Option Addr} {a b e f a' b' e' f' : Nat} {T : TypeId} {g h : Bool} {p q r s : Option Addr} {n c m d k u l v B : Nat} {lo hi : Rat}
    (hW : w5.heap[G]? = some (.cells #[.bool x, .slice y a b, .slice z e f, .bool x', .slice y' a' b', .slice z' e' f'] T (0, 0))) (hG : w.heap.size ≤ G) (hg : w.grownBy w5 none) (h1 : IsV w5 g p n c q m d lo) (h2 : IsV w5 h r k u s l v hi) (b1 : n ≤ B ∧ m ≤ B) (b2 : k ≤ B ∧ l ≤ B) :
    WPost w lo hi B (.returned (.agg #[.bool g, .slice p n c, .slice q m d, .bool h, .slice r k u, .slice s l v])) ((((((w5.setCell ⟨G, 0, none⟩ (.bool g)).setCell ⟨G, 1, none⟩ (.slice p n c)).setCell ⟨G, 2, none⟩ (.slice q m d)).setCell ⟨G, 3, none⟩ (.bool h)).setCell ⟨G, 4, none⟩ (.slice r k u)).setCell ⟨G, 5, none⟩ (.slice s l v)) := by
  have hs := set6_grown w5 G (.bool g) (.slice p n c) (.slice q m d) (.bool h) (.slice r k u) (.slice s l v)
  exact ⟨g, h, p, q, r, s, n, c, m, d, k, u, l, v, rfl, h1.other6 hW hs, h2.other6 hW hs, b1, b2, grown_new hg hs (fun g e => by cases e; exact hG)⟩
end Go.Proofs.YtcjoecmkkpmjmaaGreatDoor

set_option linter.unusedVariables false
set_option linter.unusedSimpArgs false
namespace Go.Proofs.YtcjoecmkkpmjmaaGreatDoor
open Go.RowKit Nm

/-- a rational number as it lies in memory, and its value -/
structure RV where
  g : Bool
  p : Option Addr
  n : Nat
  c : Nat
  q : Option Addr
  m : Nat
  d : Nat
  v : Rat
def RV.is (r : RV) (w : World) : Prop := IsV w r.g r.p r.n r.c r.q r.m r.d r.v
theorem RV.is.keep {r : RV} {w w' : World} (h : r.is w) (hg : w.grownBy w' none) : r.is w' := IsV.keep h hg
/-- the cells of the row -/
def RVs (w : World) (G : Nat) (l : List RV) : Prop := ∀ j (hj : j < l.length), w.cell? ⟨G, j * 3, none⟩ = some (.bool l[j].g) ∧ w.cell? ⟨G, j * 3 + 1, none⟩ = some (.slice l[j].p l[j].n l[j].c) ∧ w.cell? ⟨G, j * 3 + 2, none⟩ = some (.slice l[j].q l[j].m l[j].d) ∧ l[j].is w
theorem RVs.keep {w w' : World} {G : Nat} {l : List RV} (h : RVs w G l) (hg : w.grownBy w' none) : RVs w' G l := fun j hj =>
  let ⟨a, b, c, d⟩ := h j hj; ⟨hg.cell a (by simp), hg.cell b (by simp), hg.cell c (by simp), d.keep hg⟩
/-- the least of x and some more -/
def minR (x : Rat) : List Rat → Rat
  | [] => x
  | y :: l => minR (if y < x then y else x) l
def maxR (x : Rat) : List Rat → Rat
  | [] => x
  | y :: l => maxR (if x < y then y else x) l
theorem minR_snoc (l : List Rat) : ∀ (x y : Rat), minR x (l ++ [y]) = if y < minR x l then y else minR x l := by
  induction l with
  | nil => intro x y; rfl
  | cons z l ih => intro x y; exact ih _ y
theorem maxR_snoc (l : List Rat) : ∀ (x y : Rat), maxR x (l ++ [y]) = if maxR x l < y then y else maxR x l := by
  induction l with
  | nil => intro x y; rfl
  | cons z l ih => intro x y; exact ih _ y
theorem minR_take {l : List RV} {x : Rat} {k : Nat} (hk : k < l.length) : minR x ((l.take (k + 1)).map RV.v) = if l[k].v < minR x ((l.take k).map RV.v) then l[k].v else minR x ((l.take k).map RV.v) := by
  rw [List.take_succ_eq_append_getElem hk, List.map_append]
  exact minR_snoc _ _ _
theorem maxR_take {l : List RV} {x : Rat} {k : Nat} (hk : k < l.length) : maxR x ((l.take (k + 1)).map RV.v) = if maxR x ((l.take k).map RV.v) < l[k].v then l[k].v else maxR x ((l.take k).map RV.v) := by
  rw [List.take_succ_eq_append_getElem hk, List.map_append]
  exact maxR_snoc _ _ _
end Go.Proofs.YtcjoecmkkpmjmaaGreatDoor

set_option linter.unusedVariables false
set_option linter.unusedSimpArgs false
namespace Go.Proofs.YtcjoecmkkpmjmaaGreatDoor
open Go.RowKit Nm

theorem setA_block {w : World} {G : Nat} {x : Bool} {y z : Option Addr} {a b e f : Nat} {T : TypeId} (hb : w.heap[G]? = some (.cells #[.bool x, .slice y a b, .slice z e f] T (0, 0))) (p : Option Addr) (n c : Nat) :
    (w.setCell ⟨G, 1, none⟩ (.slice p n c)).heap[G]? = some (.cells #[.bool x, .slice p n c, .slice z e f] T (0, 0)) := by
  have h1 := heap_setCell_same w G 1 _ _ (.slice p n c) hb
  rw [h1]; simp
theorem setB_block {w : World} {G : Nat} {x : Bool} {y z : Option Addr} {a b e f : Nat} {T : TypeId} (hb : w.heap[G]? = some (.cells #[.bool x, .slice y a b, .slice z e f] T (0, 0))) (p : Option Addr) (n c : Nat) :
    (w.setCell ⟨G, 2, none⟩ (.slice p n c)).heap[G]? = some (.cells #[.bool x, .slice y a b, .slice p n c] T (0, 0)) := by
  have h1 := heap_setCell_same w G 2 _ _ (.slice p n c) hb
  rw [h1]; simp
theorem setC_block {w : World} {G : Nat} {x : Bool} {y z : Option Addr} {a b e f : Nat} {T : TypeId} (hb : w.heap[G]? = some (.cells #[.bool x, .slice y a b, .slice z e f] T (0, 0))) (g : Bool) (p : Option Addr) (n c : Nat) (q : Option Addr) (m d : Nat) :
    (((w.setCell ⟨G, 0, none⟩ (.bool g)).setCell ⟨G, 1, none⟩ (.slice p n c)).setCell ⟨G, 2, none⟩ (.slice q m d)).heap[G]? = some (.cells #[.bool g, .slice p n c, .slice q m d] T (0, 0)) := by
  have h1 := heap_setCell_same w G 0 _ _ (.bool g) hb
  have h2 := heap_setCell_same _ G 1 _ _ (.slice p n c) h1
  have h3 := heap_setCell_same _ G 2 _ _ (.slice q m d) h2
  rw [h3]
  simp
theorem IsV.o3 {w w' : World} {g : Bool} {p q : Option Addr} {n c m d G : Nat} {v : Rat} {x : Bool} {y z : Option Addr} {a b e f : Nat} {T : TypeId} (h : IsV w g p n c q m d v) (hb : w.heap[G]? = some (.cells #[.bool x, .slice y a b, .slice z e f] T (0, 0))) (hg : w.grownBy w' (some G)) : IsV w' g p n c q m d v :=
  ⟨⟨IsC.other3 h.1.1 hb hg, h.1.2⟩, h.2.other3 hb hg⟩
theorem RV.is.o3 {r : RV} {w w' : World} {G : Nat} {x : Bool} {y z : Option Addr} {a b e f : Nat} {T : TypeId} (h : r.is w) (hb : w.heap[G]? = some (.cells #[.bool x, .slice y a b, .slice z e f] T (0, 0))) (hg : w.grownBy w' (some G)) : r.is w' := IsV.o3 h hb hg
theorem cmpR_nn {v u : Rat} (h : ¬ v < u) : ¬ (cmpR v u < 0) := by
  unfold cmpR
  rw [if_neg h]
  split <;> omega
theorem cmpR_np {v u : Rat} (h : ¬ u < v) : ¬ (0 < cmpR v u) := by
  rw [cmpR_neg u v]
  have := cmpR_nn h
  omega
theorem RVs.o3 {w w' : World} {K G : Nat} {l : List RV} {x : Bool} {y z : Option Addr} {a b e f : Nat} {T : TypeId} (h : RVs w K l) (hb : w.heap[G]? = some (.cells #[.bool x, .slice y a b, .slice z e f] T (0, 0))) (hg : w.grownBy w' (some G)) (hne : K ≠ G) : RVs w' K l := fun j hj =>
  let ⟨a, b, c, d⟩ := h j hj; ⟨hg.cell a (by simp; exact hne), hg.cell b (by simp; exact hne), hg.cell c (by simp; exact hne), d.o3 hb hg⟩

set_option maxRecDepth 20000 in
set_option maxHeartbeats 4000000 in
theorem ivClone_v (S : Nat) {w : World} {g1 : Bool} {p1 q1 : Option Addr} {n1 c1 m1 d1 : Nat} {v : Rat} (hV : IsV w g1 p1 n1 c1 q1 m1 d1 v) (hn1 : n1 ≤ S) (hm1 : m1 ≤ S) (hS : S ≤ 40000) :
    Calls Tryz.prog 119 #[.agg #[.bool g1, .slice p1 n1 c1, .slice q1 m1 d1]] w (VPost w v S) := by
  obtain ⟨⟨hN, hgf⟩, hE⟩ := hV
  have HG := hid hgf
  clear hgf
  have hW := (grown_trans (World.grownBy_alloc w (.cells #[.bool g1, .slice p1 n1 c1, .slice q1 m1 d1] 27) none) (World.grownBy_alloc _ (.cells #[.bool false, .slice none 0 0, .slice none 0 0] 27) none))
  have bx0 : ((w.alloc (.cells #[.bool g1, .slice p1 n1 c1, .slice q1 m1 d1] 27)).alloc (.cells #[.bool false, .slice none 0 0, .slice none 0 0] 27)).heap[w.heap.size]? = some (.cells #[.bool g1, .slice p1 n1 c1, .slice q1 m1 d1] 27 (0, 0)) := by
    have h0 := heap_alloc_new w (.cells #[.bool g1, .slice p1 n1 c1, .slice q1 m1 d1] 27)
    have h1 := (World.grownBy_alloc (w.alloc (.cells #[.bool g1, .slice p1 n1 c1, .slice q1 m1 d1] 27)) (.cells #[.bool false, .slice none 0 0, .slice none 0 0] 27) none).block _ (lt_of_block h0) (by simp)
    have h2 := h1.trans h0
    simpa using h2
  have bx1 : ((w.alloc (.cells #[.bool g1, .slice p1 n1 c1, .slice q1 m1 d1] 27)).alloc (.cells #[.bool false, .slice none 0 0, .slice none 0 0] 27)).heap[w.heap.size + 1]? = some (.cells #[.bool false, .slice none 0 0, .slice none 0 0] 27 (0, 0)) := by
    have := heap_alloc_new (w.alloc (.cells #[.bool g1, .slice p1 n1 c1, .slice q1 m1 d1] 27)) (.cells #[.bool false, .slice none 0 0, .slice none 0 0] 27)
    simpa using this
  replace hN := hN.keep hW; replace hE := hE.keep hW
  obtain ⟨x0, x1, x2, fx0, fx1, fx2⟩ := ratbox_facts bx0
  go_enter Tryz.func119, Tryz.ntmps119
  go_wp2_with fail
  generalize ((w.alloc (.cells #[.bool g1, .slice p1 n1 c1, .slice q1 m1 d1] 27)).alloc (.cells #[.bool false, .slice none 0 0, .slice none 0 0] 27)) = w0 at *
  refine (cloneC_any hN (by omega)).mono ?_
  rintro ee v1 ⟨p3, c3, rfl, hP, hg⟩
  replace hN := hN.keep hg; replace hE := hE.keep hg; replace bx0 := (hg.block _ (lt_of_block bx0) (by simp)).trans bx0; replace bx1 := (hg.block _ (lt_of_block bx1) (by simp)).trans bx1
  replace hW := grown_trans hW hg
  clear hg hN x0 x1 x2 fx0 fx1 fx2
  obtain ⟨x0, x1, x2, fx0, fx1, fx2⟩ := ratbox_facts bx0
  have hs := grown_setCell v1 ⟨w.heap.size, 1, none⟩ (.slice p3 n1 c3)
  replace hE := hE.other3 bx0 hs; replace hP := hP.other3 bx0 hs
  replace bx1 := (hs.block _ (lt_of_block bx1) (by simp)).trans bx1
  replace hW := grown_new hW hs (fun g e => by cases e; exact Nat.le_refl _)
  have bn := setA_block bx0 p3 n1 c3
  obtain ⟨y0, y1, y2, _, _, _⟩ := ratbox_facts bn
  go_wp2_with fail
  generalize v1.setCell ⟨w.heap.size, 1, none⟩ (.slice p3 n1 c3) = s1 at *
  clear hs bx0 x0 x1 x2 fx0 fx1 fx2
  refine (cloneC_any hE (by omega)).mono ?_
  rintro ee v2 ⟨q3, d3, rfl, hQ, hg⟩
  replace hP := hP.keep hg; replace bn := (hg.block _ (lt_of_block bn) (by simp)).trans bn; replace bx1 := (hg.block _ (lt_of_block bx1) (by simp)).trans bx1; replace hW := grown_trans hW hg
  clear hg hE y0 y1 y2
  obtain ⟨y0, y1, y2, fy0, fy1, fy2⟩ := ratbox_facts bn
  have hs := grown_setCell v2 ⟨w.heap.size, 2, none⟩ (.slice q3 m1 d3)
  replace hP := hP.other3 bn hs; replace hQ := hQ.other3 bn hs
  replace bx1 := (hs.block _ (lt_of_block bx1) (by simp)).trans bx1
  replace hW := grown_new hW hs (fun g e => by cases e; exact Nat.le_refl _)
  have bm := setB_block bn q3 m1 d3
  obtain ⟨z0, z1, z2, _, _, _⟩ := ratbox_facts bm
  obtain ⟨l0, l1, l2, f0, f1, f2⟩ := ratbox_facts bx1
  go_wp2_with fail
  exact bodyPost_ret (v := .agg #[.bool g1, .slice p3 n1 c3, .slice q3 m1 d3]) (by simp [results, Tryz.results119, go_sem, l0, l1, l2, f0, f1, f2]) rfl
    (VPost.close bx1 (by omega) hW ⟨⟨hP, HG.out⟩, hQ⟩ hn1 hm1)

set_option maxRecDepth 20000 in
set_option maxHeartbeats 4000000 in
theorem between_v (S : Nat) {w : World} {g1 g2 : Bool} {p1 q1 p2 q2 : Option Addr} {n1 c1 m1 d1 n2 c2 m2 d2 : Nat} {v u : Rat} (hV : IsV w g1 p1 n1 c1 q1 m1 d1 v) (hU : IsV w g2 p2 n2 c2 q2 m2 d2 u) (hn1 : n1 ≤ S) (hm1 : m1 ≤ S) (hn2 : n2 ≤ S) (hm2 : m2 ≤ S) (hS : S ≤ 40000) :
    Calls Tryz.prog 72 #[.agg #[.bool g1, .slice p1 n1 c1, .slice q1 m1 d1], .agg #[.bool g2, .slice p2 n2 c2, .slice q2 m2 d2]] w (WPost w v u S) := by
  have hW := (grown_trans (grown_trans (World.grownBy_alloc w (.cells #[.bool g1, .slice p1 n1 c1, .slice q1 m1 d1] 27) none) (World.grownBy_alloc _ (.cells #[.bool g2, .slice p2 n2 c2, .slice q2 m2 d2] 27) none)) (World.grownBy_alloc _ (.cells #[.bool false, .slice none 0 0, .slice none 0 0, .bool false, .slice none 0 0, .slice none 0 0] 29) none))
  have bx0 : (((w.alloc (.cells #[.bool g1, .slice p1 n1 c1, .slice q1 m1 d1] 27)).alloc (.cells #[.bool g2, .slice p2 n2 c2, .slice q2 m2 d2] 27)).alloc (.cells #[.bool false, .slice none 0 0, .slice none 0 0, .bool false, .slice none 0 0, .slice none 0 0] 29)).heap[w.heap.size]? = some (.cells #[.bool g1, .slice p1 n1 c1, .slice q1 m1 d1] 27 (0, 0)) := by
    have h0 := heap_alloc_new w (.cells #[.bool g1, .slice p1 n1 c1, .slice q1 m1 d1] 27)
    have h1 := (grown_trans (World.grownBy_alloc (w.alloc (.cells #[.bool g1, .slice p1 n1 c1, .slice q1 m1 d1] 27)) (.cells #[.bool g2, .slice p2 n2 c2, .slice q2 m2 d2] 27) none) (World.grownBy_alloc _ (.cells #[.bool false, .slice none 0 0, .slice none 0 0, .bool false, .slice none 0 0, .slice none 0 0] 29) none)).block _ (lt_of_block h0) (by simp)
    have h2 := h1.trans h0
    simpa using h2
  obtain ⟨x0, x1, x2, _, _, _⟩ := ratbox_facts bx0
  clear bx0
  have bx1 : (((w.alloc (.cells #[.bool g1, .slice p1 n1 c1, .slice q1 m1 d1] 27)).alloc (.cells #[.bool g2, .slice p2 n2 c2, .slice q2 m2 d2] 27)).alloc (.cells #[.bool false, .slice none 0 0, .slice none 0 0, .bool false, .slice none 0 0, .slice none 0 0] 29)).heap[w.heap.size + 1]? = some (.cells #[.bool g2, .slice p2 n2 c2, .slice q2 m2 d2] 27 (0, 0)) := by
    have h0 := heap_alloc_new (w.alloc (.cells #[.bool g1, .slice p1 n1 c1, .slice q1 m1 d1] 27)) (.cells #[.bool g2, .slice p2 n2 c2, .slice q2 m2 d2] 27)
    have h1 := (World.grownBy_alloc ((w.alloc (.cells #[.bool g1, .slice p1 n1 c1, .slice q1 m1 d1] 27)).alloc (.cells #[.bool g2, .slice p2 n2 c2, .slice q2 m2 d2] 27)) (.cells #[.bool false, .slice none 0 0, .slice none 0 0, .bool false, .slice none 0 0, .slice none 0 0] 29) none).block _ (lt_of_block h0) (by simp)
    have h2 := h1.trans h0
    simpa using h2
  obtain ⟨y0, y1, y2, _, _, _⟩ := ratbox_facts bx1
  clear bx1
  have bx2 : (((w.alloc (.cells #[.bool g1, .slice p1 n1 c1, .slice q1 m1 d1] 27)).alloc (.cells #[.bool g2, .slice p2 n2 c2, .slice q2 m2 d2] 27)).alloc (.cells #[.bool false, .slice none 0 0, .slice none 0 0, .bool false, .slice none 0 0, .slice none 0 0] 29)).heap[w.heap.size + 1 + 1]? = some (.cells #[.bool false, .slice none 0 0, .slice none 0 0, .bool false, .slice none 0 0, .slice none 0 0] 29 (0, 0)) := by
    have := heap_alloc_new ((w.alloc (.cells #[.bool g1, .slice p1 n1 c1, .slice q1 m1 d1] 27)).alloc (.cells #[.bool g2, .slice p2 n2 c2, .slice q2 m2 d2] 27)) (.cells #[.bool false, .slice none 0 0, .slice none 0 0, .bool false, .slice none 0 0, .slice none 0 0] 29)
    simpa using this
  replace hV := hV.keep hW; replace hU := hU.keep hW
  go_enter Tryz.func72, Tryz.ntmps72
  go_wp2_with fail
  generalize (((w.alloc (.cells #[.bool g1, .slice p1 n1 c1, .slice q1 m1 d1] 27)).alloc (.cells #[.bool g2, .slice p2 n2 c2, .slice q2 m2 d2] 27)).alloc (.cells #[.bool false, .slice none 0 0, .slice none 0 0, .bool false, .slice none 0 0, .slice none 0 0] 29)) = w0 at *
  have hg := grown_drew w0 none
  replace hV := hV.keep hg; replace hU := hU.keep hg; replace x0 := hg.cell x0 (by simp); replace x1 := hg.cell x1 (by simp)
  replace x2 := hg.cell x2 (by simp); replace y0 := hg.cell y0 (by simp); replace y1 := hg.cell y1 (by simp); replace y2 := hg.cell y2 (by simp)
  replace bx2 := (hg.block _ (lt_of_block bx2) (by simp)).trans bx2; replace hW := grown_trans hW hg
  clear hg
  go_region_held3 (fun w' => w'.cell? ⟨w.heap.size, 0, none⟩ = some (.bool g1) ∧ w'.cell? ⟨w.heap.size, 1, none⟩ = some (.slice p1 n1 c1) ∧ w'.cell? ⟨w.heap.size, 2, none⟩ = some (.slice q1 m1 d1) ∧ w'.cell? ⟨w.heap.size + 1, 0, none⟩ = some (.bool g2) ∧ w'.cell? ⟨w.heap.size + 1, 1, none⟩ = some (.slice p2 n2 c2) ∧ w'.cell? ⟨w.heap.size + 1, 2, none⟩ = some (.slice q2 m2 d2)) ((try go_split_ands) <;> (repeat' apply And.intro) <;> (repeat (first | (with_reducible assumption) | (with_reducible refine (grown_setCell _ _ _).cell ?_ (by first | (simp; omega) | simp)) | (with_reducible refine (World.grownBy_alloc _ _ none).cell ?_ (by simp)) | (with_reducible refine (grown_drew _ none).cell ?_ (by simp)))))
    (first
      | (go_at_call 119; (with_reducible refine (ivClone_v S hV hn1 hm1 hS).mono ?_); rintro ee v1 ⟨g3, p3, n3, c3, q3, m3, d3, rfl, hX, hn3, hm3, hg⟩; replace hV := hV.keep hg; replace hU := hU.keep hg; replace x0 := hg.cell x0 (by simp); replace x1 := hg.cell x1 (by simp); replace x2 := hg.cell x2 (by simp); replace y0 := hg.cell y0 (by simp); replace y1 := hg.cell y1 (by simp); replace y2 := hg.cell y2 (by simp); replace bx2 := (hg.block _ (lt_of_block bx2) (by simp)).trans bx2; replace hW := grown_trans hW hg; clear hg)
      | (go_at_call 119; (with_reducible refine (ivClone_v S hU hn2 hm2 hS).mono ?_); rintro ee v2 ⟨g4, p4, n4, c4, q4, m4, d4, rfl, hY, hn4, hm4, hg⟩; replace hV := hV.keep hg; replace hU := hU.keep hg; replace hX := hX.keep hg; replace x0 := hg.cell x0 (by simp); replace x1 := hg.cell x1 (by simp); replace x2 := hg.cell x2 (by simp); replace y0 := hg.cell y0 (by simp); replace y1 := hg.cell y1 (by simp); replace y2 := hg.cell y2 (by simp); replace bx2 := (hg.block _ (lt_of_block bx2) (by simp)).trans bx2; replace hW := grown_trans hW hg; clear hg; have ff := ivbox_facts bx2; obtain ⟨⟨l0, l1, l2, l3, l4, l5⟩, f0, f1, f2, f3, f4, f5⟩ := ff))
  go_wp2_with fail
  exact bodyPost_ret (v := .agg #[.bool g3, .slice p3 n3 c3, .slice q3 m3 d3, .bool g4, .slice p4 n4 c4, .slice q4 m4 d4]) (by simp [results, Tryz.results72, go_sem, l0, l1, l2, l3, l4, l5, f0, f1, f2, f3, f4, f5]) rfl
    (WPost.close bx2 (by omega) hW hX hY ⟨hn3, hm3⟩ ⟨hn4, hm4⟩)

set_option maxRecDepth 20000 in
set_option maxHeartbeats 4000000 in
theorem point_v (S : Nat) {w : World} {g1 : Bool} {p1 q1 : Option Addr} {n1 c1 m1 d1 : Nat} {v : Rat} (hV : IsV w g1 p1 n1 c1 q1 m1 d1 v) (hn1 : n1 ≤ S) (hm1 : m1 ≤ S) (hS : S ≤ 40000) :
    Calls Tryz.prog 30 #[.agg #[.bool g1, .slice p1 n1 c1, .slice q1 m1 d1]] w (WPost w v v S) := by
  have hW := (grown_trans (World.grownBy_alloc w (.cells #[.bool g1, .slice p1 n1 c1, .slice q1 m1 d1] 27) none) (World.grownBy_alloc _ (.cells #[.bool false, .slice none 0 0, .slice none 0 0, .bool false, .slice none 0 0, .slice none 0 0] 29) none))
  have bx0 : ((w.alloc (.cells #[.bool g1, .slice p1 n1 c1, .slice q1 m1 d1] 27)).alloc (.cells #[.bool false, .slice none 0 0, .slice none 0 0, .bool false, .slice none 0 0, .slice none 0 0] 29)).heap[w.heap.size]? = some (.cells #[.bool g1, .slice p1 n1 c1, .slice q1 m1 d1] 27 (0, 0)) := by
    have h0 := heap_alloc_new w (.cells #[.bool g1, .slice p1 n1 c1, .slice q1 m1 d1] 27)
    have h1 := (World.grownBy_alloc (w.alloc (.cells #[.bool g1, .slice p1 n1 c1, .slice q1 m1 d1] 27)) (.cells #[.bool false, .slice none 0 0, .slice none 0 0, .bool false, .slice none 0 0, .slice none 0 0] 29) none).block _ (lt_of_block h0) (by simp)
    have h2 := h1.trans h0
    simpa using h2
  obtain ⟨x0, x1, x2, _, _, _⟩ := ratbox_facts bx0
  clear bx0
  have bx1 : ((w.alloc (.cells #[.bool g1, .slice p1 n1 c1, .slice q1 m1 d1] 27)).alloc (.cells #[.bool false, .slice none 0 0, .slice none 0 0, .bool false, .slice none 0 0, .slice none 0 0] 29)).heap[w.heap.size + 1]? = some (.cells #[.bool false, .slice none 0 0, .slice none 0 0, .bool false, .slice none 0 0, .slice none 0 0] 29 (0, 0)) := by
    have := heap_alloc_new (w.alloc (.cells #[.bool g1, .slice p1 n1 c1, .slice q1 m1 d1] 27)) (.cells #[.bool false, .slice none 0 0, .slice none 0 0, .bool false, .slice none 0 0, .slice none 0 0] 29)
    simpa using this
  replace hV := hV.keep hW
  go_enter Tryz.func30, Tryz.ntmps30
  go_wp2_with fail
  generalize ((w.alloc (.cells #[.bool g1, .slice p1 n1 c1, .slice q1 m1 d1] 27)).alloc (.cells #[.bool false, .slice none 0 0, .slice none 0 0, .bool false, .slice none 0 0, .slice none 0 0] 29)) = w0 at *
  refine (between_v S hV hV hn1 hm1 hn1 hm1 hS).mono ?_
  rintro ee v1 ⟨g3, g4, p3, q3, p4, q4, n3, c3, m3, d3, n4, c4, m4, d4, rfl, hX, hY, b1, b2, hg⟩
  replace hV := hV.keep hg; replace x0 := hg.cell x0 (by simp); replace x1 := hg.cell x1 (by simp); replace x2 := hg.cell x2 (by simp)
  replace bx1 := (hg.block _ (lt_of_block bx1) (by simp)).trans bx1; replace hW := grown_trans hW hg
  clear hg
  have ff := ivbox_facts bx1; obtain ⟨⟨l0, l1, l2, l3, l4, l5⟩, f0, f1, f2, f3, f4, f5⟩ := ff
  go_wp2_with fail
  exact bodyPost_ret (v := .agg #[.bool g3, .slice p3 n3 c3, .slice q3 m3 d3, .bool g4, .slice p4 n4 c4, .slice q4 m4 d4]) (by simp [results, Tryz.results30, go_sem, l0, l1, l2, l3, l4, l5, f0, f1, f2, f3, f4, f5]) rfl
    (WPost.close bx1 (by omega) hW hX hY b1 b2)

set_option maxRecDepth 20000 in
set_option maxHeartbeats 4000000 in
theorem least_v (S : Nat) {w : World} {g1 : Bool} {p1 q1 : Option Addr} {n1 c1 m1 d1 G cp : Nat} {v : Rat} (l : List RV) (L : Nat) (hL : l.length = L) (hV : IsV w g1 p1 n1 c1 q1 m1 d1 v) (hl : RVs w G l) (hG : G < w.heap.size) (hsz : ∀ r ∈ l, r.n ≤ S ∧ r.m ≤ S) (hn1 : n1 ≤ S) (hm1 : m1 ≤ S) (hS : S ≤ 40000) (hL2 : L ≤ 1000) :
    Calls Tryz.prog 109 #[.agg #[.bool g1, .slice p1 n1 c1, .slice q1 m1 d1], .slice (some ⟨G, 0, none⟩) L cp] w (VPost w (minR v (l.map RV.v)) S) := by
  have HL := hid hL
  have HS := hid hsz
  clear hsz hL
  have hW := (grown_trans (World.grownBy_alloc w (.cells #[.bool g1, .slice p1 n1 c1, .slice q1 m1 d1] 27) none) (World.grownBy_alloc _ (.cells #[.bool false, .slice none 0 0, .slice none 0 0] 27) none))
  have bx0 : ((w.alloc (.cells #[.bool g1, .slice p1 n1 c1, .slice q1 m1 d1] 27)).alloc (.cells #[.bool false, .slice none 0 0, .slice none 0 0] 27)).heap[w.heap.size]? = some (.cells #[.bool g1, .slice p1 n1 c1, .slice q1 m1 d1] 27 (0, 0)) := by
    have h0 := heap_alloc_new w (.cells #[.bool g1, .slice p1 n1 c1, .slice q1 m1 d1] 27)
    have h1 := (World.grownBy_alloc (w.alloc (.cells #[.bool g1, .slice p1 n1 c1, .slice q1 m1 d1] 27)) (.cells #[.bool false, .slice none 0 0, .slice none 0 0] 27) none).block _ (lt_of_block h0) (by simp)
    have h2 := h1.trans h0
    simpa using h2
  have bx1 : ((w.alloc (.cells #[.bool g1, .slice p1 n1 c1, .slice q1 m1 d1] 27)).alloc (.cells #[.bool false, .slice none 0 0, .slice none 0 0] 27)).heap[w.heap.size + 1]? = some (.cells #[.bool false, .slice none 0 0, .slice none 0 0] 27 (0, 0)) := by
    have := heap_alloc_new (w.alloc (.cells #[.bool g1, .slice p1 n1 c1, .slice q1 m1 d1] 27)) (.cells #[.bool false, .slice none 0 0, .slice none 0 0] 27)
    simpa using this
  replace hV := hV.keep hW; replace hl := hl.keep hW
  have hGK : G ≠ w.heap.size := by omega
  go_enter Tryz.func109, Tryz.ntmps109
  go_wp2_with fail
  generalize ((w.alloc (.cells #[.bool g1, .slice p1 n1 c1, .slice q1 m1 d1] 27)).alloc (.cells #[.bool false, .slice none 0 0, .slice none 0 0] 27)) = w0 at *
  go_loopw [9] (fun i wr => ∃ (k : Nat) (g : Bool) (p : Option Addr) (n c : Nat) (q : Option Addr) (m d : Nat), k ≤ L ∧ i = .int .i64 k ∧ wr.heap[w.heap.size]? = some (.cells #[.bool g, .slice p n c, .slice q m d] 27 (0, 0)) ∧ IsV wr g p n c q m d (minR v ((l.take k).map RV.v)) ∧ n ≤ S ∧ m ≤ S ∧ w0.grownBy wr (some w.heap.size)) (fun i _ => L - (intOf i).toNat)
  case atStart => exact ⟨0, g1, p1, n1, c1, q1, m1, d1, Nat.zero_le _, rfl, bx0, by simpa [minR, maxR] using hV, hn1, hm1, grown_refl _ _⟩
  case round =>
    obtain ⟨k, g, p, n, c, q, m, d, hk, rfl, bK, hC, hn, hm, hgr⟩ := hrel
    replace hl := hl.o3 bx0 hgr hGK
    by_cases hlt : k < L
    · have hkv : k < l.length := by rw [HL.out]; exact hlt
      obtain ⟨y0, y1, y2, hR⟩ := hl k hkv
      have HM := hid (minR_take (x := v) hkv)
      have hsz := HS.out l[k] (List.getElem_mem hkv)
      obtain ⟨r, hr⟩ : ∃ r, r = l[k] := ⟨_, rfl⟩
      rw [← hr] at y0 y1 y2 hR HM hsz
      obtain ⟨g2, p2, n2, c2, q2, m2, d2, u⟩ := r
      simp only [] at y0 y1 y2 HM hsz
      replace hR : IsV wr g2 p2 n2 c2 q2 m2 d2 u := hR
      obtain ⟨hn2, hm2⟩ := hsz
      generalize minR v ((l.take k).map RV.v) = cur at *
      have HR := hid hr
      clear hr hl
      have hki : (k : Int) < (L : Int) := by omega
      have hg := World.grownBy_alloc wr (.cells #[.bool g2, .slice p2 n2 c2, .slice q2 m2 d2] 27) none
      have bx := heap_alloc_new wr (.cells #[.bool g2, .slice p2 n2 c2, .slice q2 m2 d2] 27)
      obtain ⟨r0, r1, r2, _, _, _⟩ := ratbox_facts bx
      clear bx
      replace bK := (hg.block _ (lt_of_block bK) (by simp)).trans bK
      replace hC := hC.keep hg; replace hR := hR.keep hg; replace hgr := grown_none hgr hg
      obtain ⟨x0, x1, x2, fx0, fx1, fx2⟩ := ratbox_facts bK
      clear hg
      have hKlt := lt_of_block bK
      go_wp2_with fail
      generalize wr.alloc (.cells #[.bool g2, .slice p2 n2 c2, .slice q2 m2 d2] 27) = wa at *
      generalize hK : wr.heap.size = K at *
      refine (ratCmp_v S hR.q hC.q hn2 hm2 hn hm (by omega)).mono ?_
      rintro ee w2 ⟨rfl, hg⟩
      replace bK := (hg.block _ (lt_of_block bK) (by simp)).trans bK; replace hC := hC.keep hg; replace hR := hR.keep hg; replace hgr := grown_none hgr hg; replace r0 := hg.cell r0 (by simp); replace r1 := hg.cell r1 (by simp); replace r2 := hg.cell r2 (by simp)
      clear hg x0 x1 x2 fx0 fx1 fx2
      by_cases hu : u < cur
      · rw [cmpR_lt hu]
        replace HM := HM.out
        rw [if_pos hu] at HM
        replace HM := hid HM
        obtain ⟨x0, x1, x2, fx0, fx1, fx2⟩ := ratbox_facts bK
        have hs := set3_grown w2 w.heap.size (.bool g2) (.slice p2 n2 c2) (.slice q2 m2 d2)
        have bn := setC_block bK g2 p2 n2 c2 q2 m2 d2
        go_wp2_with fail
        exact ⟨⟨k + 1, g2, p2, n2, c2, q2, m2, d2, by omega, rfl, bn, HM.out ▸ hR.o3 bK hs, hn2, hm2, grown_trans hgr hs⟩, by simp [intOf]; omega⟩
      · have hcc : ¬ (cmpR u cur < 0) := cmpR_nn hu
        replace HM := HM.out
        rw [if_neg hu] at HM
        replace HM := hid HM
        go_wp2_with fail
        exact ⟨⟨k + 1, g, p, n, c, q, m, d, by omega, rfl, bK, HM.out ▸ hC, hn, hm, hgr⟩, by simp [intOf]; omega⟩
    · obtain rfl : k = L := by omega
      have HT2 := hid (show l.take k = l from List.take_of_length_le (by rw [HL.out]; exact Nat.le_refl _))
      rw [HT2.out] at hC
      replace bx1 := (hgr.block _ (lt_of_block bx1) (by simp)).trans bx1
      replace hW := grown_new hW hgr (fun g e => by cases e; omega)
      obtain ⟨x0, x1, x2, _, _, _⟩ := ratbox_facts bK
      obtain ⟨l0, l1, l2, f0, f1, f2⟩ := ratbox_facts bx1
      clear hl
      go_wp2_with fail
      exact bodyPost_ret (v := .agg #[.bool g, .slice p n c, .slice q m d]) (by simp [results, Tryz.results109, go_sem, l0, l1, l2, f0, f1, f2]) rfl
        (VPost.close bx1 (by omega) hW hC hn hm)

set_option maxRecDepth 20000 in
set_option maxHeartbeats 4000000 in
theorem greatest_v (S : Nat) {w : World} {g1 : Bool} {p1 q1 : Option Addr} {n1 c1 m1 d1 G cp : Nat} {v : Rat} (l : List RV) (L : Nat) (hL : l.length = L) (hV : IsV w g1 p1 n1 c1 q1 m1 d1 v) (hl : RVs w G l) (hG : G < w.heap.size) (hsz : ∀ r ∈ l, r.n ≤ S ∧ r.m ≤ S) (hn1 : n1 ≤ S) (hm1 : m1 ≤ S) (hS : S ≤ 40000) (hL2 : L ≤ 1000) :
    Calls Tryz.prog 43 #[.agg #[.bool g1, .slice p1 n1 c1, .slice q1 m1 d1], .slice (some ⟨G, 0, none⟩) L cp] w (VPost w (maxR v (l.map RV.v)) S) := by
  have HL := hid hL
  have HS := hid hsz
  clear hsz hL
  have hW := (grown_trans (World.grownBy_alloc w (.cells #[.bool g1, .slice p1 n1 c1, .slice q1 m1 d1] 27) none) (World.grownBy_alloc _ (.cells #[.bool false, .slice none 0 0, .slice none 0 0] 27) none))
  have bx0 : ((w.alloc (.cells #[.bool g1, .slice p1 n1 c1, .slice q1 m1 d1] 27)).alloc (.cells #[.bool false, .slice none 0 0, .slice none 0 0] 27)).heap[w.heap.size]? = some (.cells #[.bool g1, .slice p1 n1 c1, .slice q1 m1 d1] 27 (0, 0)) := by
    have h0 := heap_alloc_new w (.cells #[.bool g1, .slice p1 n1 c1, .slice q1 m1 d1] 27)
    have h1 := (World.grownBy_alloc (w.alloc (.cells #[.bool g1, .slice p1 n1 c1, .slice q1 m1 d1] 27)) (.cells #[.bool false, .slice none 0 0, .slice none 0 0] 27) none).block _ (lt_of_block h0) (by simp)
    have h2 := h1.trans h0
    simpa using h2
  have bx1 : ((w.alloc (.cells #[.bool g1, .slice p1 n1 c1, .slice q1 m1 d1] 27)).alloc (.cells #[.bool false, .slice none 0 0, .slice none 0 0] 27)).heap[w.heap.size + 1]? = some (.cells #[.bool false, .slice none 0 0, .slice none 0 0] 27 (0, 0)) := by
    have := heap_alloc_new (w.alloc (.cells #[.bool g1, .slice p1 n1 c1, .slice q1 m1 d1] 27)) (.cells #[.bool false, .slice none 0 0, .slice none 0 0] 27)
    simpa using this
  replace hV := hV.keep hW; replace hl := hl.keep hW
  have hGK : G ≠ w.heap.size := by omega
  go_enter Tryz.func43, Tryz.ntmps43
  go_wp2_with fail
  generalize ((w.alloc (.cells #[.bool g1, .slice p1 n1 c1, .slice q1 m1 d1] 27)).alloc (.cells #[.bool false, .slice none 0 0, .slice none 0 0] 27)) = w0 at *
  go_loopw [9] (fun i wr => ∃ (k : Nat) (g : Bool) (p : Option Addr) (n c : Nat) (q : Option Addr) (m d : Nat), k ≤ L ∧ i = .int .i64 k ∧ wr.heap[w.heap.size]? = some (.cells #[.bool g, .slice p n c, .slice q m d] 27 (0, 0)) ∧ IsV wr g p n c q m d (maxR v ((l.take k).map RV.v)) ∧ n ≤ S ∧ m ≤ S ∧ w0.grownBy wr (some w.heap.size)) (fun i _ => L - (intOf i).toNat)
  case atStart => exact ⟨0, g1, p1, n1, c1, q1, m1, d1, Nat.zero_le _, rfl, bx0, by simpa [minR, maxR] using hV, hn1, hm1, grown_refl _ _⟩
  case round =>
    obtain ⟨k, g, p, n, c, q, m, d, hk, rfl, bK, hC, hn, hm, hgr⟩ := hrel
    replace hl := hl.o3 bx0 hgr hGK
    by_cases hlt : k < L
    · have hkv : k < l.length := by rw [HL.out]; exact hlt
      obtain ⟨y0, y1, y2, hR⟩ := hl k hkv
      have HM := hid (maxR_take (x := v) hkv)
      have hsz := HS.out l[k] (List.getElem_mem hkv)
      obtain ⟨r, hr⟩ : ∃ r, r = l[k] := ⟨_, rfl⟩
      rw [← hr] at y0 y1 y2 hR HM hsz
      obtain ⟨g2, p2, n2, c2, q2, m2, d2, u⟩ := r
      simp only [] at y0 y1 y2 HM hsz
      replace hR : IsV wr g2 p2 n2 c2 q2 m2 d2 u := hR
      obtain ⟨hn2, hm2⟩ := hsz
      generalize maxR v ((l.take k).map RV.v) = cur at *
      have HR := hid hr
      clear hr hl
      have hki : (k : Int) < (L : Int) := by omega
      have hg := World.grownBy_alloc wr (.cells #[.bool g2, .slice p2 n2 c2, .slice q2 m2 d2] 27) none
      have bx := heap_alloc_new wr (.cells #[.bool g2, .slice p2 n2 c2, .slice q2 m2 d2] 27)
      obtain ⟨r0, r1, r2, _, _, _⟩ := ratbox_facts bx
      clear bx
      replace bK := (hg.block _ (lt_of_block bK) (by simp)).trans bK
      replace hC := hC.keep hg; replace hR := hR.keep hg; replace hgr := grown_none hgr hg
      obtain ⟨x0, x1, x2, fx0, fx1, fx2⟩ := ratbox_facts bK
      clear hg
      have hKlt := lt_of_block bK
      go_wp2_with fail
      generalize wr.alloc (.cells #[.bool g2, .slice p2 n2 c2, .slice q2 m2 d2] 27) = wa at *
      generalize hK : wr.heap.size = K at *
      refine (ratCmp_v S hR.q hC.q hn2 hm2 hn hm (by omega)).mono ?_
      rintro ee w2 ⟨rfl, hg⟩
      replace bK := (hg.block _ (lt_of_block bK) (by simp)).trans bK; replace hC := hC.keep hg; replace hR := hR.keep hg; replace hgr := grown_none hgr hg; replace r0 := hg.cell r0 (by simp); replace r1 := hg.cell r1 (by simp); replace r2 := hg.cell r2 (by simp)
      clear hg x0 x1 x2 fx0 fx1 fx2
      by_cases hu : cur < u
      · rw [cmpR_gt hu]
        replace HM := HM.out
        rw [if_pos hu] at HM
        replace HM := hid HM
        obtain ⟨x0, x1, x2, fx0, fx1, fx2⟩ := ratbox_facts bK
        have hs := set3_grown w2 w.heap.size (.bool g2) (.slice p2 n2 c2) (.slice q2 m2 d2)
        have bn := setC_block bK g2 p2 n2 c2 q2 m2 d2
        go_wp2_with fail
        exact ⟨⟨k + 1, g2, p2, n2, c2, q2, m2, d2, by omega, rfl, bn, HM.out ▸ hR.o3 bK hs, hn2, hm2, grown_trans hgr hs⟩, by simp [intOf]; omega⟩
      · have hcc : ¬ (0 < cmpR u cur) := cmpR_np hu
        replace HM := HM.out
        rw [if_neg hu] at HM
        replace HM := hid HM
        go_wp2_with fail
        exact ⟨⟨k + 1, g, p, n, c, q, m, d, by omega, rfl, bK, HM.out ▸ hC, hn, hm, hgr⟩, by simp [intOf]; omega⟩
    · obtain rfl : k = L := by omega
      have HT2 := hid (show l.take k = l from List.take_of_length_le (by rw [HL.out]; exact Nat.le_refl _))
      rw [HT2.out] at hC
      replace bx1 := (hgr.block _ (lt_of_block bx1) (by simp)).trans bx1
      replace hW := grown_new hW hgr (fun g e => by cases e; omega)
      obtain ⟨x0, x1, x2, _, _, _⟩ := ratbox_facts bK
      obtain ⟨l0, l1, l2, f0, f1, f2⟩ := ratbox_facts bx1
      clear hl
      go_wp2_with fail
      exact bodyPost_ret (v := .agg #[.bool g, .slice p n c, .slice q m d]) (by simp [results, Tryz.results43, go_sem, l0, l1, l2, f0, f1, f2]) rfl
        (VPost.close bx1 (by omega) hW hC hn hm)

set_option maxRecDepth 20000 in
set_option maxHeartbeats 4000000 in
theorem hull_v (S : Nat) {w : World} {g1 : Bool} {p1 q1 : Option Addr} {n1 c1 m1 d1 G cp : Nat} {v : Rat} (l : List RV) (L : Nat) (hL : l.length = L) (hV : IsV w g1 p1 n1 c1 q1 m1 d1 v) (hl : RVs w G l) (hG : G < w.heap.size) (hsz : ∀ r ∈ l, r.n ≤ S ∧ r.m ≤ S) (hn1 : n1 ≤ S) (hm1 : m1 ≤ S) (hS : S ≤ 40000) (hL2 : L ≤ 1000) :
    Calls Tryz.prog 59 #[.agg #[.bool g1, .slice p1 n1 c1, .slice q1 m1 d1], .slice (some ⟨G, 0, none⟩) L cp] w (WPost w (minR v (l.map RV.v)) (maxR v (l.map RV.v)) S) := by
  have HL := hid hL
  have HS := hid hsz
  clear hsz hL
  have hW := (grown_trans (World.grownBy_alloc w (.cells #[.bool g1, .slice p1 n1 c1, .slice q1 m1 d1] 27) none) (World.grownBy_alloc _ (.cells #[.bool false, .slice none 0 0, .slice none 0 0, .bool false, .slice none 0 0, .slice none 0 0] 29) none))
  have bx0 : ((w.alloc (.cells #[.bool g1, .slice p1 n1 c1, .slice q1 m1 d1] 27)).alloc (.cells #[.bool false, .slice none 0 0, .slice none 0 0, .bool false, .slice none 0 0, .slice none 0 0] 29)).heap[w.heap.size]? = some (.cells #[.bool g1, .slice p1 n1 c1, .slice q1 m1 d1] 27 (0, 0)) := by
    have h0 := heap_alloc_new w (.cells #[.bool g1, .slice p1 n1 c1, .slice q1 m1 d1] 27)
    have h1 := (World.grownBy_alloc (w.alloc (.cells #[.bool g1, .slice p1 n1 c1, .slice q1 m1 d1] 27)) (.cells #[.bool false, .slice none 0 0, .slice none 0 0, .bool false, .slice none 0 0, .slice none 0 0] 29) none).block _ (lt_of_block h0) (by simp)
    have h2 := h1.trans h0
    simpa using h2
  obtain ⟨x0, x1, x2, _, _, _⟩ := ratbox_facts bx0
  clear bx0
  have bx1 : ((w.alloc (.cells #[.bool g1, .slice p1 n1 c1, .slice q1 m1 d1] 27)).alloc (.cells #[.bool false, .slice none 0 0, .slice none 0 0, .bool false, .slice none 0 0, .slice none 0 0] 29)).heap[w.heap.size + 1]? = some (.cells #[.bool false, .slice none 0 0, .slice none 0 0, .bool false, .slice none 0 0, .slice none 0 0] 29 (0, 0)) := by
    have := heap_alloc_new (w.alloc (.cells #[.bool g1, .slice p1 n1 c1, .slice q1 m1 d1] 27)) (.cells #[.bool false, .slice none 0 0, .slice none 0 0, .bool false, .slice none 0 0, .slice none 0 0] 29)
    simpa using this
  replace hV := hV.keep hW; replace hl := hl.keep hW
  skip
  go_enter Tryz.func59, Tryz.ntmps59
  go_wp2_with fail
  generalize ((w.alloc (.cells #[.bool g1, .slice p1 n1 c1, .slice q1 m1 d1] 27)).alloc (.cells #[.bool false, .slice none 0 0, .slice none 0 0, .bool false, .slice none 0 0, .slice none 0 0] 29)) = w0 at *
  have hg := grown_drew w0 none
  replace hV := hV.keep hg; replace hl := hl.keep hg; replace x0 := hg.cell x0 (by simp); replace x1 := hg.cell x1 (by simp)
  replace x2 := hg.cell x2 (by simp); replace bx1 := (hg.block _ (lt_of_block bx1) (by simp)).trans bx1; replace hW := grown_trans hW hg
  clear hg
  go_region_held3 (fun w' => w'.cell? ⟨w.heap.size, 0, none⟩ = some (.bool g1) ∧ w'.cell? ⟨w.heap.size, 1, none⟩ = some (.slice p1 n1 c1) ∧ w'.cell? ⟨w.heap.size, 2, none⟩ = some (.slice q1 m1 d1)) ((try go_split_ands) <;> (repeat' apply And.intro) <;> (repeat (first | (with_reducible assumption) | (with_reducible refine (grown_setCell _ _ _).cell ?_ (by first | (simp; omega) | simp)) | (with_reducible refine (World.grownBy_alloc _ _ none).cell ?_ (by simp)) | (with_reducible refine (grown_drew _ none).cell ?_ (by simp)))))
    (first
      | (go_at_call 109; (with_reducible refine (least_v S l L HL.out hV hl (Nat.lt_of_lt_of_le hG hW.size) HS.out hn1 hm1 hS hL2).mono ?_); rintro ee v1 ⟨g3, p3, n3, c3, q3, m3, d3, rfl, hX, hn3, hm3, hg⟩; replace hV := hV.keep hg; replace hl := hl.keep hg; replace x0 := hg.cell x0 (by simp); replace x1 := hg.cell x1 (by simp); replace x2 := hg.cell x2 (by simp); replace bx1 := (hg.block _ (lt_of_block bx1) (by simp)).trans bx1; replace hW := grown_trans hW hg; clear hg)
      | (go_at_call 43; (with_reducible refine (greatest_v S l L HL.out hV hl (Nat.lt_of_lt_of_le hG hW.size) HS.out hn1 hm1 hS hL2).mono ?_); rintro ee v2 ⟨g4, p4, n4, c4, q4, m4, d4, rfl, hY, hn4, hm4, hg⟩; replace hV := hV.keep hg; replace hl := hl.keep hg; replace hX := hX.keep hg; replace x0 := hg.cell x0 (by simp); replace x1 := hg.cell x1 (by simp); replace x2 := hg.cell x2 (by simp); replace bx1 := (hg.block _ (lt_of_block bx1) (by simp)).trans bx1; replace hW := grown_trans hW hg; clear hg)
      | (go_at_call 72; (with_reducible refine (between_v S hX hY hn3 hm3 hn4 hm4 hS).mono ?_); rintro ee v3 ⟨g5, g6, p5, q5, p6, q6, n5, c5, m5, d5, n6, c6, m6, d6, rfl, hP, hQ, b1, b2, hg⟩; replace hV := hV.keep hg; replace hl := hl.keep hg; replace hX := hX.keep hg; replace hY := hY.keep hg; replace x0 := hg.cell x0 (by simp); replace x1 := hg.cell x1 (by simp); replace x2 := hg.cell x2 (by simp); replace bx1 := (hg.block _ (lt_of_block bx1) (by simp)).trans bx1; replace hW := grown_trans hW hg; clear hg; have ff := ivbox_facts bx1; obtain ⟨⟨l0, l1, l2, l3, l4, l5⟩, f0, f1, f2, f3, f4, f5⟩ := ff))
  go_wp2_with fail
  exact bodyPost_ret (v := .agg #[.bool g5, .slice p5 n5 c5, .slice q5 m5 d5, .bool g6, .slice p6 n6 c6, .slice q6 m6 d6]) (by simp [results, Tryz.results59, go_sem, l0, l1, l2, l3, l4, l5, f0, f1, f2, f3, f4, f5]) rfl
    (WPost.close bx1 (by omega) hW hP hQ b1 b2)
end Go.Proofs.YtcjoecmkkpmjmaaGreatDoor
