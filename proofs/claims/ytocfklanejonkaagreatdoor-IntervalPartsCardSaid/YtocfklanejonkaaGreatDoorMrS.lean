/-
  RatS, in one text.
-/
import Derived.Test.YtocfklanejonkaaGreatDoorMrR
import Derived.Deep.DeepCutAuto

set_option linter.unusedVariables false
set_option linter.unusedSimpArgs false
namespace Go.Proofs.YtocfklanejonkaaGreatDoor
open Go.RowKit Nm

theorem set3_block {w : World} {G : Nat} {x : Bool} {y z : Option Addr} {a b e f : Nat} {T : TypeId} (hb : w.heap[G]? = some (.cells #[.bool x, .slice y a b, .slice z e f] T (0, 0))) (g : Bool) (p : Option Addr) (n c : Nat) (q : Option Addr) (m d : Nat) :
    (((w.setCell ⟨G, 0, none⟩ (.bool g)).setCell ⟨G, 1, none⟩ (.slice p n c)).setCell ⟨G, 2, none⟩ (.slice q m d)).heap[G]? = some (.cells #[.bool g, .slice p n c, .slice q m d] T (0, 0)) := by
  have h1 := heap_setCell_same w G 0 _ _ (.bool g) hb
  have h2 := heap_setCell_same _ G 1 _ _ (.slice p n c) h1
  have h3 := heap_setCell_same _ G 2 _ _ (.slice q m d) h2
  rw [h3]
  simp
theorem IsV.other3 {w w' : World} {g : Bool} {p q : Option Addr} {n c m d G : Nat} {v : Rat} {x : Bool} {y z : Option Addr} {a b e f : Nat} {T : TypeId} (h : IsV w g p n c q m d v) (hb : w.heap[G]? = some (.cells #[.bool x, .slice y a b, .slice z e f] T (0, 0))) (hg : w.grownBy w' (some G)) : IsV w' g p n c q m d v :=
  ⟨⟨IsC.other3 h.1.1 hb hg, h.1.2⟩, h.2.other3 hb hg⟩

theorem IsV.nm {w : World} {g : Bool} {p q : Option Addr} {n c m d : Nat} {v : Rat} (h : IsV w g p n c q m d v) : IsI w g p n c v.num := h.1
theorem IsV.dn {w : World} {g : Bool} {p q : Option Addr} {n c m d : Nat} {v : Rat} (h : IsV w g p n c q m d v) : IsC w q m d v.den := h.2

/-- both arguments' boxes hold the valid forms -/
def NRel (v u : Rat) (w w1 : World) (b : Nat) (wx : World) : Prop :=
  ∃ (g h : Bool) (p q r s : Option Addr) (n c m d k a l e : Nat), wx.heap[w.heap.size]? = some (.cells #[.bool g, .slice p n c, .slice q m d] 27 (0, 0)) ∧ wx.heap[w.heap.size + 1]? = some (.cells #[.bool h, .slice r k a, .slice s l e] 27 (0, 0)) ∧
    IsV wx g p n c q m d v ∧ IsV wx h r k a s l e u ∧ (n ≤ b ∧ m ≤ b) ∧ (k ≤ b ∧ l ≤ b) ∧ w.grownBy wx none ∧ (∀ j x, w.heap.size + 1 < j → w1.heap[j]? = some x → wx.heap[j]? = some x)
section
variable {v u : Rat} {w w1 w2 : World} {b : Nat} {g h x1 x2 : Bool} {p q r s y1 z1 y2 z2 : Option Addr} {n c m d k a l e a1 b1 e1 f1 a2 b2 e2 f2 : Nat}
theorem nrel_ab (bA : w2.heap[w.heap.size]? = some (.cells #[.bool x1, .slice y1 a1 b1, .slice z1 e1 f1] 27 (0, 0))) (bB : w2.heap[w.heap.size + 1]? = some (.cells #[.bool x2, .slice y2 a2 b2, .slice z2 e2 f2] 27 (0, 0)))
    (hV : IsV w2 g p n c q m d v) (hU : IsV w2 h r k a s l e u) (s1 : n ≤ b ∧ m ≤ b) (s2 : k ≤ b ∧ l ≤ b) (hW : w.grownBy w2 none) (hR : w1.grownBy w2 none) :
    NRel v u w w1 b ((((((w2.setCell ⟨w.heap.size, 0, none⟩ (.bool g)).setCell ⟨w.heap.size, 1, none⟩ (.slice p n c)).setCell ⟨w.heap.size, 2, none⟩ (.slice q m d)).setCell ⟨w.heap.size + 1, 0, none⟩ (.bool h)).setCell ⟨w.heap.size + 1, 1, none⟩ (.slice r k a)).setCell ⟨w.heap.size + 1, 2, none⟩ (.slice s l e)) := by
  have h1 := set3_grown w2 w.heap.size (.bool g) (.slice p n c) (.slice q m d)
  have k1 := set3_block bA g p n c q m d
  have k2 := (h1.block (w.heap.size + 1) (lt_of_block bB) (by simp)).trans bB
  have v1 := hV.other3 bA h1
  have u1 := hU.other3 bA h1
  have g1 := grown_new hW h1 (fun g e => by cases e; omega)
  have r1 : ∀ j x, w.heap.size + 1 < j → w1.heap[j]? = some x → (((w2.setCell ⟨w.heap.size, 0, none⟩ (.bool g)).setCell ⟨w.heap.size, 1, none⟩ (.slice p n c)).setCell ⟨w.heap.size, 2, none⟩ (.slice q m d)).heap[j]? = some x := fun j x hj hx =>
    (h1.block j (lt_of_block ((hR.block j (lt_of_block hx) (by simp)).trans hx)) (by simp; omega)).trans ((hR.block j (lt_of_block hx) (by simp)).trans hx)
  generalize (((w2.setCell ⟨w.heap.size, 0, none⟩ (.bool g)).setCell ⟨w.heap.size, 1, none⟩ (.slice p n c)).setCell ⟨w.heap.size, 2, none⟩ (.slice q m d)) = w3 at *
  have h2 := set3_grown w3 (w.heap.size + 1) (.bool h) (.slice r k a) (.slice s l e)
  exact ⟨g, h, p, q, r, s, n, c, m, d, k, a, l, e, (h2.block _ (lt_of_block k1) (by simp)).trans k1, set3_block k2 h r k a s l e, v1.other3 k2 h2, u1.other3 k2 h2, s1, s2, grown_new g1 h2 (fun g e => by cases e; omega),
    fun j x hj hx => (h2.block j (lt_of_block (r1 j x hj hx)) (by simp; omega)).trans (r1 j x hj hx)⟩
theorem nrel_ba (bA : w2.heap[w.heap.size]? = some (.cells #[.bool x1, .slice y1 a1 b1, .slice z1 e1 f1] 27 (0, 0))) (bB : w2.heap[w.heap.size + 1]? = some (.cells #[.bool x2, .slice y2 a2 b2, .slice z2 e2 f2] 27 (0, 0)))
    (hV : IsV w2 g p n c q m d v) (hU : IsV w2 h r k a s l e u) (s1 : n ≤ b ∧ m ≤ b) (s2 : k ≤ b ∧ l ≤ b) (hW : w.grownBy w2 none) (hR : w1.grownBy w2 none) :
    NRel v u w w1 b ((((((w2.setCell ⟨w.heap.size + 1, 0, none⟩ (.bool h)).setCell ⟨w.heap.size + 1, 1, none⟩ (.slice r k a)).setCell ⟨w.heap.size + 1, 2, none⟩ (.slice s l e)).setCell ⟨w.heap.size, 0, none⟩ (.bool g)).setCell ⟨w.heap.size, 1, none⟩ (.slice p n c)).setCell ⟨w.heap.size, 2, none⟩ (.slice q m d)) := by
  have h1 := set3_grown w2 (w.heap.size + 1) (.bool h) (.slice r k a) (.slice s l e)
  have k1 := set3_block bB h r k a s l e
  have k2 := (h1.block w.heap.size (lt_of_block bA) (by simp)).trans bA
  have v1 := hV.other3 bB h1
  have u1 := hU.other3 bB h1
  have g1 := grown_new hW h1 (fun g e => by cases e; omega)
  have r1 : ∀ j x, w.heap.size + 1 < j → w1.heap[j]? = some x → (((w2.setCell ⟨w.heap.size + 1, 0, none⟩ (.bool h)).setCell ⟨w.heap.size + 1, 1, none⟩ (.slice r k a)).setCell ⟨w.heap.size + 1, 2, none⟩ (.slice s l e)).heap[j]? = some x := fun j x hj hx =>
    (h1.block j (lt_of_block ((hR.block j (lt_of_block hx) (by simp)).trans hx)) (by simp; omega)).trans ((hR.block j (lt_of_block hx) (by simp)).trans hx)
  generalize (((w2.setCell ⟨w.heap.size + 1, 0, none⟩ (.bool h)).setCell ⟨w.heap.size + 1, 1, none⟩ (.slice r k a)).setCell ⟨w.heap.size + 1, 2, none⟩ (.slice s l e)) = w3 at *
  have h2 := set3_grown w3 w.heap.size (.bool g) (.slice p n c) (.slice q m d)
  exact ⟨g, h, p, q, r, s, n, c, m, d, k, a, l, e, set3_block k2 g p n c q m d, (h2.block _ (lt_of_block k1) (by simp)).trans k1, v1.other3 k2 h2, u1.other3 k2 h2, s1, s2, grown_new g1 h2 (fun g e => by cases e; omega),
    fun j x hj hx => (h2.block j (lt_of_block (r1 j x hj hx)) (by simp; omega)).trans (r1 j x hj hx)⟩
end

set_option maxRecDepth 20000 in
set_option maxHeartbeats 4000000 in
theorem rSign3_v (S : Nat) {w : World} {g1 : Bool} {p1 q1 : Option Addr} {n1 c1 m1 d1 : Nat} {v : Rat} (hA : IsQ w g1 p1 n1 c1 q1 m1 d1 v) (hn1 : n1 ≤ S) (hm1 : m1 ≤ S) (hS : S ≤ 40000) :
    Calls Tryz.prog 56 #[.agg #[.bool g1, .slice p1 n1 c1, .slice q1 m1 d1]] w fun e w' => e = .returned (.int .i64 (cmpR v 0)) ∧ w.grownBy w' none := by
  have HV := hid (show cmpI v.num 0 = cmpR v 0 by rw [sign_q v.den_pos, Rat.mkRat_self])
  have hW := (World.grownBy_alloc w (.cells #[.bool g1, .slice p1 n1 c1, .slice q1 m1 d1] 27) none)
  have bx0 : (w.alloc (.cells #[.bool g1, .slice p1 n1 c1, .slice q1 m1 d1] 27)).heap[w.heap.size]? = some (.cells #[.bool g1, .slice p1 n1 c1, .slice q1 m1 d1] 27 (0, 0)) := by
    have := heap_alloc_new w (.cells #[.bool g1, .slice p1 n1 c1, .slice q1 m1 d1] 27)
    simpa using this
  obtain ⟨x0, x1, x2, _, _, _⟩ := ratbox_facts bx0
  clear bx0
  replace hA := hA.keep hW
  go_enter Tryz.func56, Tryz.ntmps56
  have hfd : ∀ (w : World) (g : Bool) (p : Option Addr) (n c : Nat) (q : Option Addr) (m d : Nat), (Instr.field 27 (.agg #[.bool g, .slice p n c, .slice q m d]) 0).run Tryz.prog w = .ok (.agg #[.bool g, .slice p n c]) w := fun _ _ _ _ _ _ _ _ => by kernel_rfl
  go_wp2_with fail
  generalize (w.alloc (.cells #[.bool g1, .slice p1 n1 c1, .slice q1 m1 d1] 27)) = w0 at *
  refine (norm_v S hA hn1 hm1 hS).mono ?_
  rintro ee v1 ⟨g3, p3, n3, c3, q3, m3, d3, rfl, hV, hn3, hm3, hg⟩
  replace hA := hA.keep hg; replace x0 := hg.cell x0 (by simp); replace x1 := hg.cell x1 (by simp); replace x2 := hg.cell x2 (by simp)
  replace hW := grown_trans hW hg
  clear hg
  go_wp2_with fail
  refine (rSign_any hV.nm.z (by omega)).mono ?_
  rintro ee v2 ⟨rfl, hg⟩
  rw [HV.out]
  replace hA := hA.keep hg; replace hV := hV.keep hg; replace x0 := hg.cell x0 (by simp); replace x1 := hg.cell x1 (by simp)
  replace x2 := hg.cell x2 (by simp); replace hW := grown_trans hW hg
  clear hg
  go_wp2_with fail
  go_ret
  exact ⟨rfl, hW⟩

set_option maxRecDepth 20000 in
set_option maxHeartbeats 4000000 in
theorem rCmp3_v (S : Nat) {w : World} {g1 g2 : Bool} {p1 q1 p2 q2 : Option Addr} {n1 c1 m1 d1 n2 c2 m2 d2 : Nat} {v u : Rat} (hA : IsQ w g1 p1 n1 c1 q1 m1 d1 v) (hB : IsQ w g2 p2 n2 c2 q2 m2 d2 u) (hn1 : n1 ≤ S) (hm1 : m1 ≤ S) (hn2 : n2 ≤ S) (hm2 : m2 ≤ S) (hS : S ≤ 40000) :
    Calls Tryz.prog 43 #[.agg #[.bool g1, .slice p1 n1 c1, .slice q1 m1 d1], .agg #[.bool g2, .slice p2 n2 c2, .slice q2 m2 d2]] w fun e w' => e = .returned (.int .i64 (cmpR v u)) ∧ w.grownBy w' none := by
  have HV := hid (show cmpI (v.num * (u.den : Int)) (u.num * (v.den : Int)) = cmpR v u by rw [cmp_q v.den_pos u.den_pos, Rat.mkRat_self, Rat.mkRat_self])
  have hW := (grown_trans (World.grownBy_alloc w (.cells #[.bool g1, .slice p1 n1 c1, .slice q1 m1 d1] 27) none) (World.grownBy_alloc _ (.cells #[.bool g2, .slice p2 n2 c2, .slice q2 m2 d2] 27) none))
  have bx0 : ((w.alloc (.cells #[.bool g1, .slice p1 n1 c1, .slice q1 m1 d1] 27)).alloc (.cells #[.bool g2, .slice p2 n2 c2, .slice q2 m2 d2] 27)).heap[w.heap.size]? = some (.cells #[.bool g1, .slice p1 n1 c1, .slice q1 m1 d1] 27 (0, 0)) := by
    have h0 := heap_alloc_new w (.cells #[.bool g1, .slice p1 n1 c1, .slice q1 m1 d1] 27)
    have h1 := (World.grownBy_alloc (w.alloc (.cells #[.bool g1, .slice p1 n1 c1, .slice q1 m1 d1] 27)) (.cells #[.bool g2, .slice p2 n2 c2, .slice q2 m2 d2] 27) none).block _ (lt_of_block h0) (by simp)
    have h2 := h1.trans h0
    simpa using h2
  have bx1 : ((w.alloc (.cells #[.bool g1, .slice p1 n1 c1, .slice q1 m1 d1] 27)).alloc (.cells #[.bool g2, .slice p2 n2 c2, .slice q2 m2 d2] 27)).heap[w.heap.size + 1]? = some (.cells #[.bool g2, .slice p2 n2 c2, .slice q2 m2 d2] 27 (0, 0)) := by
    have := heap_alloc_new (w.alloc (.cells #[.bool g1, .slice p1 n1 c1, .slice q1 m1 d1] 27)) (.cells #[.bool g2, .slice p2 n2 c2, .slice q2 m2 d2] 27)
    simpa using this
  replace hA := hA.keep hW; replace hB := hB.keep hW
  go_enter Tryz.func43, Tryz.ntmps43
  go_wp2_with fail
  generalize ((w.alloc (.cells #[.bool g1, .slice p1 n1 c1, .slice q1 m1 d1] 27)).alloc (.cells #[.bool g2, .slice p2 n2 c2, .slice q2 m2 d2] 27)) = w0 at *
  have hR := grown_refl w0 none
  have hg := grown_drew w0 none
  go_cut [2] from 5 to 8 (fun s2 wx => s2 = .pointer (some ⟨w.heap.size, 0, none⟩) ∧ NRel v u w w0 (S + 4) wx)
  case first =>
    replace hA := hA.keep hg; replace hB := hB.keep hg; replace bx0 := (hg.block _ (lt_of_block bx0) (by simp)).trans bx0; replace bx1 := (hg.block _ (lt_of_block bx1) (by simp)).trans bx1; replace hW := grown_trans hW hg; replace hR := grown_trans hR hg
    clear hg
    obtain ⟨x0, x1, x2, _, _, _⟩ := ratbox_facts bx0
    obtain ⟨y0, y1, y2, _, _, _⟩ := ratbox_facts bx1
    go_region_with (first
      | (go_at_call 88; (with_reducible refine (norm_v S hA hn1 hm1 hS).mono ?_); intro ee v1 HH; obtain ⟨g3, p3, n3, c3, q3, m3, d3, he, hV, hn3, hm3, hg⟩ := HH; subst he; replace hA := hA.keep hg; replace hB := hB.keep hg; replace x0 := hg.cell x0 (by simp); replace x1 := hg.cell x1 (by simp); replace x2 := hg.cell x2 (by simp); replace y0 := hg.cell y0 (by simp); replace y1 := hg.cell y1 (by simp); replace y2 := hg.cell y2 (by simp); replace bx0 := (hg.block _ (lt_of_block bx0) (by simp)).trans bx0; replace bx1 := (hg.block _ (lt_of_block bx1) (by simp)).trans bx1; replace hW := grown_trans hW hg; replace hR := grown_trans hR hg; clear hg)
      | (go_at_call 88; (with_reducible refine (norm_v S hB hn2 hm2 hS).mono ?_); intro ee v2 HH; obtain ⟨g4, p4, n4, c4, q4, m4, d4, he, hU, hn4, hm4, hg⟩ := HH; subst he; replace hA := hA.keep hg; replace hB := hB.keep hg; replace hV := hV.keep hg; replace x0 := hg.cell x0 (by simp); replace x1 := hg.cell x1 (by simp); replace x2 := hg.cell x2 (by simp); replace y0 := hg.cell y0 (by simp); replace y1 := hg.cell y1 (by simp); replace y2 := hg.cell y2 (by simp); replace bx0 := (hg.block _ (lt_of_block bx0) (by simp)).trans bx0; replace bx1 := (hg.block _ (lt_of_block bx1) (by simp)).trans bx1; replace hW := grown_trans hW hg; replace hR := grown_trans hR hg; clear hg; have ff := ratbox_facts bx0; obtain ⟨_, _, _, fa0, fa1, fa2⟩ := ff; have ff := ratbox_facts bx1; obtain ⟨_, _, _, fb0, fb1, fb2⟩ := ff))
    all_goals
      go_wp2_with fail
      go_meet
      refine ⟨rfl, ?_⟩
      first
        | with_reducible exact nrel_ab bx0 bx1 hV hU ⟨hn3, hm3⟩ ⟨hn4, hm4⟩ hW hR
        | with_reducible exact nrel_ba bx0 bx1 hV hU ⟨hn3, hm3⟩ ⟨hn4, hm4⟩ hW hR
  case rest =>
    obtain ⟨rfl, g3, g4, p3, q3, p4, q4, n3, c3, m3, d3, n4, c4, m4, d4, bA, bB, hV, hU, ⟨hn3, hm3⟩, ⟨hn4, hm4⟩, hW, hR⟩ := hcut
    obtain ⟨x0, x1, x2, _, _, _⟩ := ratbox_facts bA
    obtain ⟨y0, y1, y2, _, _, _⟩ := ratbox_facts bB
    clear hR hg
    clear bA bB bx0 bx1 hA hB
    go_wp2_with fail
    have hg := grown_drew wc none
    replace hV := hV.keep hg; replace hU := hU.keep hg; replace x0 := hg.cell x0 (by simp); replace x1 := hg.cell x1 (by simp)
    replace x2 := hg.cell x2 (by simp); replace y0 := hg.cell y0 (by simp); replace y1 := hg.cell y1 (by simp); replace y2 := hg.cell y2 (by simp)
    replace hW := grown_trans hW hg
    clear hg
    go_region_held3 (fun w' => w'.cell? ⟨w.heap.size, 0, none⟩ = some (.bool g3) ∧ w'.cell? ⟨w.heap.size, 1, none⟩ = some (.slice p3 n3 c3) ∧ w'.cell? ⟨w.heap.size, 2, none⟩ = some (.slice q3 m3 d3) ∧ w'.cell? ⟨w.heap.size + 1, 0, none⟩ = some (.bool g4) ∧ w'.cell? ⟨w.heap.size + 1, 1, none⟩ = some (.slice p4 n4 c4) ∧ w'.cell? ⟨w.heap.size + 1, 2, none⟩ = some (.slice q4 m4 d4)) ((try go_split_ands) <;> (repeat' apply And.intro) <;> (repeat (first | (with_reducible assumption) | (with_reducible refine (grown_setCell _ _ _).cell ?_ (by first | (simp; omega) | simp)) | (with_reducible refine (World.grownBy_alloc _ _ none).cell ?_ (by simp)) | (with_reducible refine (grown_drew _ none).cell ?_ (by simp)))))
      (first
        | (go_at_call 91; (with_reducible refine (wholeT_any _ _ _).mono ?_); rintro ee v5 ⟨rfl, hg⟩; replace hV := hV.keep hg; replace hU := hU.keep hg; replace hX := hX.keep hg; replace x0 := hg.cell x0 (by simp); replace x1 := hg.cell x1 (by simp); replace x2 := hg.cell x2 (by simp); replace y0 := hg.cell y0 (by simp); replace y1 := hg.cell y1 (by simp); replace y2 := hg.cell y2 (by simp); replace hW := grown_trans hW hg; clear hg)
        | (go_at_call 91; (with_reducible refine (wholeT_any _ _ _).mono ?_); rintro ee v5 ⟨rfl, hg⟩; replace hV := hV.keep hg; replace hU := hU.keep hg; replace x0 := hg.cell x0 (by simp); replace x1 := hg.cell x1 (by simp); replace x2 := hg.cell x2 (by simp); replace y0 := hg.cell y0 (by simp); replace y1 := hg.cell y1 (by simp); replace y2 := hg.cell y2 (by simp); replace hW := grown_trans hW hg; clear hg)
        | (go_at_call 90; (with_reducible refine (rMul_any hV.nm.z (IsZ.of_n hU.dn.isN) (by omega) (by omega)).mono ?_); intro ee v6 HH; obtain ⟨g6, p6, n6, c6, he, hX, hn6, hg⟩ := HH; subst he; replace hV := hV.keep hg; replace hU := hU.keep hg; replace x0 := hg.cell x0 (by simp); replace x1 := hg.cell x1 (by simp); replace x2 := hg.cell x2 (by simp); replace y0 := hg.cell y0 (by simp); replace y1 := hg.cell y1 (by simp); replace y2 := hg.cell y2 (by simp); replace hW := grown_trans hW hg; clear hg)
        | (go_at_call 90; (with_reducible refine (rMul_any hU.nm.z (IsZ.of_n hV.dn.isN) (by omega) (by omega)).mono ?_); intro ee v7 HH; obtain ⟨g7, p7, n7, c7, he, hY, hn7, hg⟩ := HH; subst he; replace hV := hV.keep hg; replace hU := hU.keep hg; replace hX := hX.keep hg; replace x0 := hg.cell x0 (by simp); replace x1 := hg.cell x1 (by simp); replace x2 := hg.cell x2 (by simp); replace y0 := hg.cell y0 (by simp); replace y1 := hg.cell y1 (by simp); replace y2 := hg.cell y2 (by simp); replace hW := grown_trans hW hg; clear hg)
        | (go_at_call 89; (with_reducible refine (rCmp_any hX.z hY.z (by omega) (by omega)).mono ?_); rintro ee v8 ⟨rfl, hg⟩; rw [HV.out]; replace hV := hV.keep hg; replace hU := hU.keep hg; replace hX := hX.keep hg; replace hY := hY.keep hg; replace x0 := hg.cell x0 (by simp); replace x1 := hg.cell x1 (by simp); replace x2 := hg.cell x2 (by simp); replace y0 := hg.cell y0 (by simp); replace y1 := hg.cell y1 (by simp); replace y2 := hg.cell y2 (by simp); replace hW := grown_trans hW hg; clear hg))
    go_wp2_with fail
    go_ret
    exact ⟨rfl, hW⟩

set_option maxRecDepth 20000 in
set_option maxHeartbeats 4000000 in
theorem rEqual3_v (S : Nat) {w : World} {g1 g2 : Bool} {p1 q1 p2 q2 : Option Addr} {n1 c1 m1 d1 n2 c2 m2 d2 : Nat} {v u : Rat} (hA : IsQ w g1 p1 n1 c1 q1 m1 d1 v) (hB : IsQ w g2 p2 n2 c2 q2 m2 d2 u) (hn1 : n1 ≤ S) (hm1 : m1 ≤ S) (hn2 : n2 ≤ S) (hm2 : m2 ≤ S) (hS : S ≤ 40000) :
    Calls Tryz.prog 37 #[.agg #[.bool g1, .slice p1 n1 c1, .slice q1 m1 d1], .agg #[.bool g2, .slice p2 n2 c2, .slice q2 m2 d2]] w fun e w' => e = .returned (.bool (decide (v = u))) ∧ w.grownBy w' none := by
  have EQ := hid (show (cmpR v u == 0) = decide (v = u) by
    by_cases h : v = u
    · rw [decide_eq_true h, cmpR_zero.2 h]; rfl
    · rw [decide_eq_false h]; exact beq_eq_false_iff_ne.2 (fun k => h (cmpR_zero.1 k)))
  have hW := (grown_trans (World.grownBy_alloc w (.cells #[.bool g1, .slice p1 n1 c1, .slice q1 m1 d1] 27) none) (World.grownBy_alloc _ (.cells #[.bool g2, .slice p2 n2 c2, .slice q2 m2 d2] 27) none))
  have bx0 : ((w.alloc (.cells #[.bool g1, .slice p1 n1 c1, .slice q1 m1 d1] 27)).alloc (.cells #[.bool g2, .slice p2 n2 c2, .slice q2 m2 d2] 27)).heap[w.heap.size]? = some (.cells #[.bool g1, .slice p1 n1 c1, .slice q1 m1 d1] 27 (0, 0)) := by
    have h0 := heap_alloc_new w (.cells #[.bool g1, .slice p1 n1 c1, .slice q1 m1 d1] 27)
    have h1 := (World.grownBy_alloc (w.alloc (.cells #[.bool g1, .slice p1 n1 c1, .slice q1 m1 d1] 27)) (.cells #[.bool g2, .slice p2 n2 c2, .slice q2 m2 d2] 27) none).block _ (lt_of_block h0) (by simp)
    have h2 := h1.trans h0
    simpa using h2
  obtain ⟨x0, x1, x2, _, _, _⟩ := ratbox_facts bx0
  clear bx0
  have bx1 : ((w.alloc (.cells #[.bool g1, .slice p1 n1 c1, .slice q1 m1 d1] 27)).alloc (.cells #[.bool g2, .slice p2 n2 c2, .slice q2 m2 d2] 27)).heap[w.heap.size + 1]? = some (.cells #[.bool g2, .slice p2 n2 c2, .slice q2 m2 d2] 27 (0, 0)) := by
    have := heap_alloc_new (w.alloc (.cells #[.bool g1, .slice p1 n1 c1, .slice q1 m1 d1] 27)) (.cells #[.bool g2, .slice p2 n2 c2, .slice q2 m2 d2] 27)
    simpa using this
  obtain ⟨y0, y1, y2, _, _, _⟩ := ratbox_facts bx1
  clear bx1
  replace hA := hA.keep hW; replace hB := hB.keep hW
  go_enter Tryz.func37, Tryz.ntmps37
  go_wp2_with fail
  generalize ((w.alloc (.cells #[.bool g1, .slice p1 n1 c1, .slice q1 m1 d1] 27)).alloc (.cells #[.bool g2, .slice p2 n2 c2, .slice q2 m2 d2] 27)) = w0 at *
  refine (rCmp3_v S hA hB hn1 hm1 hn2 hm2 hS).mono ?_
  rintro ee v1 ⟨rfl, hg⟩
  replace hA := hA.keep hg; replace hB := hB.keep hg; replace x0 := hg.cell x0 (by simp); replace x1 := hg.cell x1 (by simp)
  replace x2 := hg.cell x2 (by simp); replace y0 := hg.cell y0 (by simp); replace y1 := hg.cell y1 (by simp); replace y2 := hg.cell y2 (by simp)
  replace hW := grown_trans hW hg
  clear hg
  go_wp2_with fail
  go_ret
  exact ⟨congrArg Ending.returned (congrArg Value.bool EQ.out), hW⟩

set_option maxRecDepth 20000 in
set_option maxHeartbeats 4000000 in
theorem rAdd3_v (S : Nat) {w : World} {g1 g2 : Bool} {p1 q1 p2 q2 : Option Addr} {n1 c1 m1 d1 n2 c2 m2 d2 : Nat} {v u : Rat} (hA : IsQ w g1 p1 n1 c1 q1 m1 d1 v) (hB : IsQ w g2 p2 n2 c2 q2 m2 d2 u) (hn1 : n1 ≤ S) (hm1 : m1 ≤ S) (hn2 : n2 ≤ S) (hm2 : m2 ≤ S) (hS : S ≤ 20000) :
    Calls Tryz.prog 62 #[.agg #[.bool g1, .slice p1 n1 c1, .slice q1 m1 d1], .agg #[.bool g2, .slice p2 n2 c2, .slice q2 m2 d2]] w (VPost w (v + u) (8 * S + 60)) := by
  have HV := hid (show mkRat (v.num * (u.den : Int) + u.num * (v.den : Int)) (v.den * u.den) = v + u by
    have := Rat.mkRat_add_mkRat v.num u.num v.den_nz u.den_nz
    rw [Rat.mkRat_self, Rat.mkRat_self] at this
    exact this.symm)
  have hW := (grown_trans (grown_trans (World.grownBy_alloc w (.cells #[.bool g1, .slice p1 n1 c1, .slice q1 m1 d1] 27) none) (World.grownBy_alloc _ (.cells #[.bool g2, .slice p2 n2 c2, .slice q2 m2 d2] 27) none)) (World.grownBy_alloc _ (.cells #[.bool false, .slice none 0 0, .slice none 0 0] 27) none))
  have bx0 : (((w.alloc (.cells #[.bool g1, .slice p1 n1 c1, .slice q1 m1 d1] 27)).alloc (.cells #[.bool g2, .slice p2 n2 c2, .slice q2 m2 d2] 27)).alloc (.cells #[.bool false, .slice none 0 0, .slice none 0 0] 27)).heap[w.heap.size]? = some (.cells #[.bool g1, .slice p1 n1 c1, .slice q1 m1 d1] 27 (0, 0)) := by
    have h0 := heap_alloc_new w (.cells #[.bool g1, .slice p1 n1 c1, .slice q1 m1 d1] 27)
    have h1 := (grown_trans (World.grownBy_alloc (w.alloc (.cells #[.bool g1, .slice p1 n1 c1, .slice q1 m1 d1] 27)) (.cells #[.bool g2, .slice p2 n2 c2, .slice q2 m2 d2] 27) none) (World.grownBy_alloc _ (.cells #[.bool false, .slice none 0 0, .slice none 0 0] 27) none)).block _ (lt_of_block h0) (by simp)
    have h2 := h1.trans h0
    simpa using h2
  have bx1 : (((w.alloc (.cells #[.bool g1, .slice p1 n1 c1, .slice q1 m1 d1] 27)).alloc (.cells #[.bool g2, .slice p2 n2 c2, .slice q2 m2 d2] 27)).alloc (.cells #[.bool false, .slice none 0 0, .slice none 0 0] 27)).heap[w.heap.size + 1]? = some (.cells #[.bool g2, .slice p2 n2 c2, .slice q2 m2 d2] 27 (0, 0)) := by
    have h0 := heap_alloc_new (w.alloc (.cells #[.bool g1, .slice p1 n1 c1, .slice q1 m1 d1] 27)) (.cells #[.bool g2, .slice p2 n2 c2, .slice q2 m2 d2] 27)
    have h1 := (World.grownBy_alloc ((w.alloc (.cells #[.bool g1, .slice p1 n1 c1, .slice q1 m1 d1] 27)).alloc (.cells #[.bool g2, .slice p2 n2 c2, .slice q2 m2 d2] 27)) (.cells #[.bool false, .slice none 0 0, .slice none 0 0] 27) none).block _ (lt_of_block h0) (by simp)
    have h2 := h1.trans h0
    simpa using h2
  have bx2 : (((w.alloc (.cells #[.bool g1, .slice p1 n1 c1, .slice q1 m1 d1] 27)).alloc (.cells #[.bool g2, .slice p2 n2 c2, .slice q2 m2 d2] 27)).alloc (.cells #[.bool false, .slice none 0 0, .slice none 0 0] 27)).heap[w.heap.size + 1 + 1]? = some (.cells #[.bool false, .slice none 0 0, .slice none 0 0] 27 (0, 0)) := by
    have := heap_alloc_new ((w.alloc (.cells #[.bool g1, .slice p1 n1 c1, .slice q1 m1 d1] 27)).alloc (.cells #[.bool g2, .slice p2 n2 c2, .slice q2 m2 d2] 27)) (.cells #[.bool false, .slice none 0 0, .slice none 0 0] 27)
    simpa using this
  replace hA := hA.keep hW; replace hB := hB.keep hW
  go_enter Tryz.func62, Tryz.ntmps62
  go_wp2_with fail
  generalize (((w.alloc (.cells #[.bool g1, .slice p1 n1 c1, .slice q1 m1 d1] 27)).alloc (.cells #[.bool g2, .slice p2 n2 c2, .slice q2 m2 d2] 27)).alloc (.cells #[.bool false, .slice none 0 0, .slice none 0 0] 27)) = w0 at *
  have hR := grown_refl w0 none
  have hg := grown_drew w0 none
  go_cut [2] from 5 to 8 (fun s2 wx => s2 = .pointer (some ⟨w.heap.size, 0, none⟩) ∧ NRel v u w w0 (S + 4) wx)
  case first =>
    replace hA := hA.keep hg; replace hB := hB.keep hg; replace bx0 := (hg.block _ (lt_of_block bx0) (by simp)).trans bx0; replace bx1 := (hg.block _ (lt_of_block bx1) (by simp)).trans bx1; replace bx2 := (hg.block _ (lt_of_block bx2) (by simp)).trans bx2; replace hW := grown_trans hW hg; replace hR := grown_trans hR hg
    clear hg
    obtain ⟨x0, x1, x2, _, _, _⟩ := ratbox_facts bx0
    obtain ⟨y0, y1, y2, _, _, _⟩ := ratbox_facts bx1
    go_region_with (first
      | (go_at_call 88; (with_reducible refine (norm_v S hA hn1 hm1 (by omega)).mono ?_); intro ee v1 HH; obtain ⟨g3, p3, n3, c3, q3, m3, d3, he, hV, hn3, hm3, hg⟩ := HH; subst he; replace hA := hA.keep hg; replace hB := hB.keep hg; replace x0 := hg.cell x0 (by simp); replace x1 := hg.cell x1 (by simp); replace x2 := hg.cell x2 (by simp); replace y0 := hg.cell y0 (by simp); replace y1 := hg.cell y1 (by simp); replace y2 := hg.cell y2 (by simp); replace bx0 := (hg.block _ (lt_of_block bx0) (by simp)).trans bx0; replace bx1 := (hg.block _ (lt_of_block bx1) (by simp)).trans bx1; replace bx2 := (hg.block _ (lt_of_block bx2) (by simp)).trans bx2; replace hW := grown_trans hW hg; replace hR := grown_trans hR hg; clear hg)
      | (go_at_call 88; (with_reducible refine (norm_v S hB hn2 hm2 (by omega)).mono ?_); intro ee v2 HH; obtain ⟨g4, p4, n4, c4, q4, m4, d4, he, hU, hn4, hm4, hg⟩ := HH; subst he; replace hA := hA.keep hg; replace hB := hB.keep hg; replace hV := hV.keep hg; replace x0 := hg.cell x0 (by simp); replace x1 := hg.cell x1 (by simp); replace x2 := hg.cell x2 (by simp); replace y0 := hg.cell y0 (by simp); replace y1 := hg.cell y1 (by simp); replace y2 := hg.cell y2 (by simp); replace bx0 := (hg.block _ (lt_of_block bx0) (by simp)).trans bx0; replace bx1 := (hg.block _ (lt_of_block bx1) (by simp)).trans bx1; replace bx2 := (hg.block _ (lt_of_block bx2) (by simp)).trans bx2; replace hW := grown_trans hW hg; replace hR := grown_trans hR hg; clear hg; have ff := ratbox_facts bx0; obtain ⟨_, _, _, fa0, fa1, fa2⟩ := ff; have ff := ratbox_facts bx1; obtain ⟨_, _, _, fb0, fb1, fb2⟩ := ff))
    all_goals
      go_wp2_with fail
      go_meet
      refine ⟨rfl, ?_⟩
      first
        | with_reducible exact nrel_ab bx0 bx1 hV hU ⟨hn3, hm3⟩ ⟨hn4, hm4⟩ hW hR
        | with_reducible exact nrel_ba bx0 bx1 hV hU ⟨hn3, hm3⟩ ⟨hn4, hm4⟩ hW hR
  case rest =>
    obtain ⟨rfl, g3, g4, p3, q3, p4, q4, n3, c3, m3, d3, n4, c4, m4, d4, bA, bB, hV, hU, ⟨hn3, hm3⟩, ⟨hn4, hm4⟩, hW, hR⟩ := hcut
    replace bx2 := hR _ _ (by omega) bx2
    obtain ⟨x0, x1, x2, _, _, _⟩ := ratbox_facts bA
    obtain ⟨y0, y1, y2, _, _, _⟩ := ratbox_facts bB
    clear hR hg
    clear bA bB bx0 bx1 hA hB
    go_wp2_with fail
    have hg := grown_drew wc none
    replace hV := hV.keep hg; replace hU := hU.keep hg; replace x0 := hg.cell x0 (by simp); replace x1 := hg.cell x1 (by simp)
    replace x2 := hg.cell x2 (by simp); replace y0 := hg.cell y0 (by simp); replace y1 := hg.cell y1 (by simp); replace y2 := hg.cell y2 (by simp)
    replace bx2 := (hg.block _ (lt_of_block bx2) (by simp)).trans bx2; replace hW := grown_trans hW hg
    clear hg
    go_region_held3 (fun w' => w'.cell? ⟨w.heap.size, 0, none⟩ = some (.bool g3) ∧ w'.cell? ⟨w.heap.size, 1, none⟩ = some (.slice p3 n3 c3) ∧ w'.cell? ⟨w.heap.size, 2, none⟩ = some (.slice q3 m3 d3) ∧ w'.cell? ⟨w.heap.size + 1, 0, none⟩ = some (.bool g4) ∧ w'.cell? ⟨w.heap.size + 1, 1, none⟩ = some (.slice p4 n4 c4) ∧ w'.cell? ⟨w.heap.size + 1, 2, none⟩ = some (.slice q4 m4 d4)) ((try go_split_ands) <;> (repeat' apply And.intro) <;> (repeat (first | (with_reducible assumption) | (with_reducible refine (grown_setCell _ _ _).cell ?_ (by first | (simp; omega) | simp)) | (with_reducible refine (World.grownBy_alloc _ _ none).cell ?_ (by simp)) | (with_reducible refine (grown_drew _ none).cell ?_ (by simp)))))
      (first
        | (go_at_call 91; (with_reducible refine (wholeT_any _ _ _).mono ?_); rintro ee v5 ⟨rfl, hg⟩; replace hV := hV.keep hg; replace hU := hU.keep hg; replace hX := hX.keep hg; replace x0 := hg.cell x0 (by simp); replace x1 := hg.cell x1 (by simp); replace x2 := hg.cell x2 (by simp); replace y0 := hg.cell y0 (by simp); replace y1 := hg.cell y1 (by simp); replace y2 := hg.cell y2 (by simp); replace bx2 := (hg.block _ (lt_of_block bx2) (by simp)).trans bx2; replace hW := grown_trans hW hg; clear hg)
        | (go_at_call 91; (with_reducible refine (wholeT_any _ _ _).mono ?_); rintro ee v5 ⟨rfl, hg⟩; replace hV := hV.keep hg; replace hU := hU.keep hg; replace x0 := hg.cell x0 (by simp); replace x1 := hg.cell x1 (by simp); replace x2 := hg.cell x2 (by simp); replace y0 := hg.cell y0 (by simp); replace y1 := hg.cell y1 (by simp); replace y2 := hg.cell y2 (by simp); replace bx2 := (hg.block _ (lt_of_block bx2) (by simp)).trans bx2; replace hW := grown_trans hW hg; clear hg)
        | (go_at_call 90; (with_reducible refine (rMul_any hV.nm.z (IsZ.of_n hU.dn.isN) (by omega) (by omega)).mono ?_); intro ee v6 HH; obtain ⟨g6, p6, n6, c6, he, hX, hn6, hg⟩ := HH; subst he; replace hV := hV.keep hg; replace hU := hU.keep hg; replace x0 := hg.cell x0 (by simp); replace x1 := hg.cell x1 (by simp); replace x2 := hg.cell x2 (by simp); replace y0 := hg.cell y0 (by simp); replace y1 := hg.cell y1 (by simp); replace y2 := hg.cell y2 (by simp); replace bx2 := (hg.block _ (lt_of_block bx2) (by simp)).trans bx2; replace hW := grown_trans hW hg; clear hg)
        | (go_at_call 90; (with_reducible refine (rMul_any hU.nm.z (IsZ.of_n hV.dn.isN) (by omega) (by omega)).mono ?_); intro ee v7 HH; obtain ⟨g7, p7, n7, c7, he, hY, hn7, hg⟩ := HH; subst he; replace hV := hV.keep hg; replace hU := hU.keep hg; replace hX := hX.keep hg; replace x0 := hg.cell x0 (by simp); replace x1 := hg.cell x1 (by simp); replace x2 := hg.cell x2 (by simp); replace y0 := hg.cell y0 (by simp); replace y1 := hg.cell y1 (by simp); replace y2 := hg.cell y2 (by simp); replace bx2 := (hg.block _ (lt_of_block bx2) (by simp)).trans bx2; replace hW := grown_trans hW hg; clear hg)
        | (go_at_call 98; (with_reducible refine (rAdd_any hX.z hY.z (by omega) (by omega)).mono ?_); intro ee v8 HH; obtain ⟨g8, p8, n8, c8, he, hP, hn8, hg⟩ := HH; subst he; replace hV := hV.keep hg; replace hU := hU.keep hg; replace hX := hX.keep hg; replace hY := hY.keep hg; replace x0 := hg.cell x0 (by simp); replace x1 := hg.cell x1 (by simp); replace x2 := hg.cell x2 (by simp); replace y0 := hg.cell y0 (by simp); replace y1 := hg.cell y1 (by simp); replace y2 := hg.cell y2 (by simp); replace bx2 := (hg.block _ (lt_of_block bx2) (by simp)).trans bx2; replace hW := grown_trans hW hg; clear hg)
        | (go_at_call 99; (with_reducible refine (refMul_n hV.dn.isN hU.dn.isN (by omega) (by omega)).mono ?_); intro ee v9 HH; obtain ⟨q9, m9, d9, he, hQ, hm9, hg⟩ := HH; subst he; replace hV := hV.keep hg; replace hU := hU.keep hg; replace hX := hX.keep hg; replace hY := hY.keep hg; replace hP := hP.keep hg; replace x0 := hg.cell x0 (by simp); replace x1 := hg.cell x1 (by simp); replace x2 := hg.cell x2 (by simp); replace y0 := hg.cell y0 (by simp); replace y1 := hg.cell y1 (by simp); replace y2 := hg.cell y2 (by simp); replace bx2 := (hg.block _ (lt_of_block bx2) (by simp)).trans bx2; replace hW := grown_trans hW hg; clear hg)
        | (go_at_call 76; (with_reducible refine (over_v (8 * S + 60) hP.z hQ.isN HV.out (by omega) (by omega) (by omega)).mono ?_); intro ee v10 HH; obtain ⟨g10, p10, n10, c10, q10, m10, d10, he, hZ, hn10, hm10, hg⟩ := HH; subst he; replace hV := hV.keep hg; replace hU := hU.keep hg; replace hX := hX.keep hg; replace hY := hY.keep hg; replace hP := hP.keep hg; replace hQ := hQ.keep hg; replace x0 := hg.cell x0 (by simp); replace x1 := hg.cell x1 (by simp); replace x2 := hg.cell x2 (by simp); replace y0 := hg.cell y0 (by simp); replace y1 := hg.cell y1 (by simp); replace y2 := hg.cell y2 (by simp); replace bx2 := (hg.block _ (lt_of_block bx2) (by simp)).trans bx2; replace hW := grown_trans hW hg; clear hg; have ff := ratbox_facts bx2; obtain ⟨l0, l1, l2, f0, f1, f2⟩ := ff))
    go_wp2_with fail
    exact bodyPost_ret (v := .agg #[.bool g10, .slice p10 n10 c10, .slice q10 m10 d10]) (by simp [results, Tryz.results62, go_sem, l0, l1, l2, f0, f1, f2]) rfl
      (VPost.close bx2 (by omega) hW hZ hn10 hm10)

set_option maxRecDepth 20000 in
set_option maxHeartbeats 4000000 in
theorem rSub3_v (S : Nat) {w : World} {g1 g2 : Bool} {p1 q1 p2 q2 : Option Addr} {n1 c1 m1 d1 n2 c2 m2 d2 : Nat} {v u : Rat} (hA : IsQ w g1 p1 n1 c1 q1 m1 d1 v) (hB : IsQ w g2 p2 n2 c2 q2 m2 d2 u) (hn1 : n1 ≤ S) (hm1 : m1 ≤ S) (hn2 : n2 ≤ S) (hm2 : m2 ≤ S) (hS : S ≤ 10000) :
    Calls Tryz.prog 64 #[.agg #[.bool g1, .slice p1 n1 c1, .slice q1 m1 d1], .agg #[.bool g2, .slice p2 n2 c2, .slice q2 m2 d2]] w (VPost w (v - u) (8 * S + 100)) := by
  have hW := (grown_trans (grown_trans (World.grownBy_alloc w (.cells #[.bool g1, .slice p1 n1 c1, .slice q1 m1 d1] 27) none) (World.grownBy_alloc _ (.cells #[.bool g2, .slice p2 n2 c2, .slice q2 m2 d2] 27) none)) (World.grownBy_alloc _ (.cells #[.bool false, .slice none 0 0, .slice none 0 0] 27) none))
  have bx0 : (((w.alloc (.cells #[.bool g1, .slice p1 n1 c1, .slice q1 m1 d1] 27)).alloc (.cells #[.bool g2, .slice p2 n2 c2, .slice q2 m2 d2] 27)).alloc (.cells #[.bool false, .slice none 0 0, .slice none 0 0] 27)).heap[w.heap.size]? = some (.cells #[.bool g1, .slice p1 n1 c1, .slice q1 m1 d1] 27 (0, 0)) := by
    have h0 := heap_alloc_new w (.cells #[.bool g1, .slice p1 n1 c1, .slice q1 m1 d1] 27)
    have h1 := (grown_trans (World.grownBy_alloc (w.alloc (.cells #[.bool g1, .slice p1 n1 c1, .slice q1 m1 d1] 27)) (.cells #[.bool g2, .slice p2 n2 c2, .slice q2 m2 d2] 27) none) (World.grownBy_alloc _ (.cells #[.bool false, .slice none 0 0, .slice none 0 0] 27) none)).block _ (lt_of_block h0) (by simp)
    have h2 := h1.trans h0
    simpa using h2
  obtain ⟨x0, x1, x2, _, _, _⟩ := ratbox_facts bx0
  clear bx0
  have bx1 : (((w.alloc (.cells #[.bool g1, .slice p1 n1 c1, .slice q1 m1 d1] 27)).alloc (.cells #[.bool g2, .slice p2 n2 c2, .slice q2 m2 d2] 27)).alloc (.cells #[.bool false, .slice none 0 0, .slice none 0 0] 27)).heap[w.heap.size + 1]? = some (.cells #[.bool g2, .slice p2 n2 c2, .slice q2 m2 d2] 27 (0, 0)) := by
    have h0 := heap_alloc_new (w.alloc (.cells #[.bool g1, .slice p1 n1 c1, .slice q1 m1 d1] 27)) (.cells #[.bool g2, .slice p2 n2 c2, .slice q2 m2 d2] 27)
    have h1 := (World.grownBy_alloc ((w.alloc (.cells #[.bool g1, .slice p1 n1 c1, .slice q1 m1 d1] 27)).alloc (.cells #[.bool g2, .slice p2 n2 c2, .slice q2 m2 d2] 27)) (.cells #[.bool false, .slice none 0 0, .slice none 0 0] 27) none).block _ (lt_of_block h0) (by simp)
    have h2 := h1.trans h0
    simpa using h2
  obtain ⟨y0, y1, y2, _, _, _⟩ := ratbox_facts bx1
  clear bx1
  have bx2 : (((w.alloc (.cells #[.bool g1, .slice p1 n1 c1, .slice q1 m1 d1] 27)).alloc (.cells #[.bool g2, .slice p2 n2 c2, .slice q2 m2 d2] 27)).alloc (.cells #[.bool false, .slice none 0 0, .slice none 0 0] 27)).heap[w.heap.size + 1 + 1]? = some (.cells #[.bool false, .slice none 0 0, .slice none 0 0] 27 (0, 0)) := by
    have := heap_alloc_new ((w.alloc (.cells #[.bool g1, .slice p1 n1 c1, .slice q1 m1 d1] 27)).alloc (.cells #[.bool g2, .slice p2 n2 c2, .slice q2 m2 d2] 27)) (.cells #[.bool false, .slice none 0 0, .slice none 0 0] 27)
    simpa using this
  replace hA := hA.keep hW; replace hB := hB.keep hW
  go_enter Tryz.func64, Tryz.ntmps64
  go_wp2_with fail
  generalize (((w.alloc (.cells #[.bool g1, .slice p1 n1 c1, .slice q1 m1 d1] 27)).alloc (.cells #[.bool g2, .slice p2 n2 c2, .slice q2 m2 d2] 27)).alloc (.cells #[.bool false, .slice none 0 0, .slice none 0 0] 27)) = w0 at *
  have hg := grown_drew w0 none
  replace hA := hA.keep hg; replace hB := hB.keep hg; replace x0 := hg.cell x0 (by simp); replace x1 := hg.cell x1 (by simp)
  replace x2 := hg.cell x2 (by simp); replace y0 := hg.cell y0 (by simp); replace y1 := hg.cell y1 (by simp); replace y2 := hg.cell y2 (by simp)
  replace bx2 := (hg.block _ (lt_of_block bx2) (by simp)).trans bx2; replace hW := grown_trans hW hg
  clear hg
  go_region_held3 (fun w' => w'.cell? ⟨w.heap.size, 0, none⟩ = some (.bool g1) ∧ w'.cell? ⟨w.heap.size, 1, none⟩ = some (.slice p1 n1 c1) ∧ w'.cell? ⟨w.heap.size, 2, none⟩ = some (.slice q1 m1 d1) ∧ w'.cell? ⟨w.heap.size + 1, 0, none⟩ = some (.bool g2) ∧ w'.cell? ⟨w.heap.size + 1, 1, none⟩ = some (.slice p2 n2 c2) ∧ w'.cell? ⟨w.heap.size + 1, 2, none⟩ = some (.slice q2 m2 d2)) ((try go_split_ands) <;> (repeat' apply And.intro) <;> (repeat (first | (with_reducible assumption) | (with_reducible refine (grown_setCell _ _ _).cell ?_ (by first | (simp; omega) | simp)) | (with_reducible refine (World.grownBy_alloc _ _ none).cell ?_ (by simp)) | (with_reducible refine (grown_drew _ none).cell ?_ (by simp)))))
    (first
      | (go_at_call 101; (with_reducible refine (rNeg3_v S hB hn2 hm2 (by omega)).mono ?_); intro ee v1 HH; obtain ⟨g5, p5, n5, c5, q5, m5, d5, he, hX, hn5, hm5, hg⟩ := HH; subst he; replace hA := hA.keep hg; replace hB := hB.keep hg; replace x0 := hg.cell x0 (by simp); replace x1 := hg.cell x1 (by simp); replace x2 := hg.cell x2 (by simp); replace y0 := hg.cell y0 (by simp); replace y1 := hg.cell y1 (by simp); replace y2 := hg.cell y2 (by simp); replace bx2 := (hg.block _ (lt_of_block bx2) (by simp)).trans bx2; replace hW := grown_trans hW hg; clear hg)
      | (go_at_call 62; (with_reducible refine (rAdd3_v (S + 4) hA hX.q (by omega) (by omega) hn5 hm5 (by omega)).mono ?_); intro ee v2 HH; obtain ⟨g6, p6, n6, c6, q6, m6, d6, he, hZ, hn6, hm6, hg⟩ := HH; subst he; replace hA := hA.keep hg; replace hB := hB.keep hg; replace hX := hX.keep hg; replace x0 := hg.cell x0 (by simp); replace x1 := hg.cell x1 (by simp); replace x2 := hg.cell x2 (by simp); replace y0 := hg.cell y0 (by simp); replace y1 := hg.cell y1 (by simp); replace y2 := hg.cell y2 (by simp); replace bx2 := (hg.block _ (lt_of_block bx2) (by simp)).trans bx2; replace hW := grown_trans hW hg; clear hg; have ff := ratbox_facts bx2; obtain ⟨l0, l1, l2, f0, f1, f2⟩ := ff))
  go_wp2_with fail
  exact bodyPost_ret (v := .agg #[.bool g6, .slice p6 n6 c6, .slice q6 m6 d6]) (by simp [results, Tryz.results64, go_sem, l0, l1, l2, f0, f1, f2]) rfl
    (VPost.close bx2 (by omega) hW (hZ.congr (Rat.sub_eq_add_neg v u).symm) (by omega) (by omega))

set_option maxRecDepth 20000 in
set_option maxHeartbeats 4000000 in
theorem rDiv3_e (S : Nat) {w : World} {g1 g2 : Bool} {p1 q1 p2 q2 : Option Addr} {n1 c1 m1 d1 n2 c2 m2 d2 : Nat} {v u : Rat} (hA : IsQ w g1 p1 n1 c1 q1 m1 d1 v) (hB : IsQ w g2 p2 n2 c2 q2 m2 d2 u) (h0 : u = 0) (hn1 : n1 ≤ S) (hm1 : m1 ≤ S) (hn2 : n2 ≤ S) (hm2 : m2 ≤ S) (hS : S ≤ 10000) :
    Calls Tryz.prog 60 #[.agg #[.bool g1, .slice p1 n1 c1, .slice q1 m1 d1], .agg #[.bool g2, .slice p2 n2 c2, .slice q2 m2 d2]] w (EPost w 3) := by
  have HZ := hid (show u.num * (v.den : Int) = 0 by rw [h0]; simp)
  clear h0
  have hW := (grown_trans (grown_trans (World.grownBy_alloc w (.cells #[.bool g1, .slice p1 n1 c1, .slice q1 m1 d1] 27) none) (World.grownBy_alloc _ (.cells #[.bool g2, .slice p2 n2 c2, .slice q2 m2 d2] 27) none)) (World.grownBy_alloc _ (.cells #[.bool false, .slice none 0 0, .slice none 0 0] 27) none))
  have bx0 : (((w.alloc (.cells #[.bool g1, .slice p1 n1 c1, .slice q1 m1 d1] 27)).alloc (.cells #[.bool g2, .slice p2 n2 c2, .slice q2 m2 d2] 27)).alloc (.cells #[.bool false, .slice none 0 0, .slice none 0 0] 27)).heap[w.heap.size]? = some (.cells #[.bool g1, .slice p1 n1 c1, .slice q1 m1 d1] 27 (0, 0)) := by
    have h0 := heap_alloc_new w (.cells #[.bool g1, .slice p1 n1 c1, .slice q1 m1 d1] 27)
    have h1 := (grown_trans (World.grownBy_alloc (w.alloc (.cells #[.bool g1, .slice p1 n1 c1, .slice q1 m1 d1] 27)) (.cells #[.bool g2, .slice p2 n2 c2, .slice q2 m2 d2] 27) none) (World.grownBy_alloc _ (.cells #[.bool false, .slice none 0 0, .slice none 0 0] 27) none)).block _ (lt_of_block h0) (by simp)
    have h2 := h1.trans h0
    simpa using h2
  have bx1 : (((w.alloc (.cells #[.bool g1, .slice p1 n1 c1, .slice q1 m1 d1] 27)).alloc (.cells #[.bool g2, .slice p2 n2 c2, .slice q2 m2 d2] 27)).alloc (.cells #[.bool false, .slice none 0 0, .slice none 0 0] 27)).heap[w.heap.size + 1]? = some (.cells #[.bool g2, .slice p2 n2 c2, .slice q2 m2 d2] 27 (0, 0)) := by
    have h0 := heap_alloc_new (w.alloc (.cells #[.bool g1, .slice p1 n1 c1, .slice q1 m1 d1] 27)) (.cells #[.bool g2, .slice p2 n2 c2, .slice q2 m2 d2] 27)
    have h1 := (World.grownBy_alloc ((w.alloc (.cells #[.bool g1, .slice p1 n1 c1, .slice q1 m1 d1] 27)).alloc (.cells #[.bool g2, .slice p2 n2 c2, .slice q2 m2 d2] 27)) (.cells #[.bool false, .slice none 0 0, .slice none 0 0] 27) none).block _ (lt_of_block h0) (by simp)
    have h2 := h1.trans h0
    simpa using h2
  have bx2 : (((w.alloc (.cells #[.bool g1, .slice p1 n1 c1, .slice q1 m1 d1] 27)).alloc (.cells #[.bool g2, .slice p2 n2 c2, .slice q2 m2 d2] 27)).alloc (.cells #[.bool false, .slice none 0 0, .slice none 0 0] 27)).heap[w.heap.size + 1 + 1]? = some (.cells #[.bool false, .slice none 0 0, .slice none 0 0] 27 (0, 0)) := by
    have := heap_alloc_new ((w.alloc (.cells #[.bool g1, .slice p1 n1 c1, .slice q1 m1 d1] 27)).alloc (.cells #[.bool g2, .slice p2 n2 c2, .slice q2 m2 d2] 27)) (.cells #[.bool false, .slice none 0 0, .slice none 0 0] 27)
    simpa using this
  replace hA := hA.keep hW; replace hB := hB.keep hW
  go_enter Tryz.func60, Tryz.ntmps60
  go_wp2_with fail
  generalize (((w.alloc (.cells #[.bool g1, .slice p1 n1 c1, .slice q1 m1 d1] 27)).alloc (.cells #[.bool g2, .slice p2 n2 c2, .slice q2 m2 d2] 27)).alloc (.cells #[.bool false, .slice none 0 0, .slice none 0 0] 27)) = w0 at *
  have hR := grown_refl w0 none
  have hg := grown_drew w0 none
  go_cut [2] from 6 to 9 (fun s2 wx => s2 = .pointer (some ⟨w.heap.size, 0, none⟩) ∧ NRel v u w w0 (S + 4) wx)
  case first =>
    replace hA := hA.keep hg; replace hB := hB.keep hg; replace bx0 := (hg.block _ (lt_of_block bx0) (by simp)).trans bx0; replace bx1 := (hg.block _ (lt_of_block bx1) (by simp)).trans bx1; replace bx2 := (hg.block _ (lt_of_block bx2) (by simp)).trans bx2; replace hW := grown_trans hW hg; replace hR := grown_trans hR hg
    clear hg
    obtain ⟨x0, x1, x2, _, _, _⟩ := ratbox_facts bx0
    obtain ⟨y0, y1, y2, _, _, _⟩ := ratbox_facts bx1
    go_region_with (first
      | (go_at_call 88; (with_reducible refine (norm_v S hA hn1 hm1 (by omega)).mono ?_); intro ee v1 HH; obtain ⟨g3, p3, n3, c3, q3, m3, d3, he, hV, hn3, hm3, hg⟩ := HH; subst he; replace hA := hA.keep hg; replace hB := hB.keep hg; replace x0 := hg.cell x0 (by simp); replace x1 := hg.cell x1 (by simp); replace x2 := hg.cell x2 (by simp); replace y0 := hg.cell y0 (by simp); replace y1 := hg.cell y1 (by simp); replace y2 := hg.cell y2 (by simp); replace bx0 := (hg.block _ (lt_of_block bx0) (by simp)).trans bx0; replace bx1 := (hg.block _ (lt_of_block bx1) (by simp)).trans bx1; replace bx2 := (hg.block _ (lt_of_block bx2) (by simp)).trans bx2; replace hW := grown_trans hW hg; replace hR := grown_trans hR hg; clear hg)
      | (go_at_call 88; (with_reducible refine (norm_v S hB hn2 hm2 (by omega)).mono ?_); intro ee v2 HH; obtain ⟨g4, p4, n4, c4, q4, m4, d4, he, hU, hn4, hm4, hg⟩ := HH; subst he; replace hA := hA.keep hg; replace hB := hB.keep hg; replace hV := hV.keep hg; replace x0 := hg.cell x0 (by simp); replace x1 := hg.cell x1 (by simp); replace x2 := hg.cell x2 (by simp); replace y0 := hg.cell y0 (by simp); replace y1 := hg.cell y1 (by simp); replace y2 := hg.cell y2 (by simp); replace bx0 := (hg.block _ (lt_of_block bx0) (by simp)).trans bx0; replace bx1 := (hg.block _ (lt_of_block bx1) (by simp)).trans bx1; replace bx2 := (hg.block _ (lt_of_block bx2) (by simp)).trans bx2; replace hW := grown_trans hW hg; replace hR := grown_trans hR hg; clear hg; have ff := ratbox_facts bx0; obtain ⟨_, _, _, fa0, fa1, fa2⟩ := ff; have ff := ratbox_facts bx1; obtain ⟨_, _, _, fb0, fb1, fb2⟩ := ff))
    all_goals
      go_wp2_with fail
      go_meet
      refine ⟨rfl, ?_⟩
      first
        | with_reducible exact nrel_ab bx0 bx1 hV hU ⟨hn3, hm3⟩ ⟨hn4, hm4⟩ hW hR
        | with_reducible exact nrel_ba bx0 bx1 hV hU ⟨hn3, hm3⟩ ⟨hn4, hm4⟩ hW hR
  case rest =>
    obtain ⟨rfl, g3, g4, p3, q3, p4, q4, n3, c3, m3, d3, n4, c4, m4, d4, bA, bB, hV, hU, ⟨hn3, hm3⟩, ⟨hn4, hm4⟩, hW, hR⟩ := hcut
    replace bx2 := hR _ _ (by omega) bx2
    obtain ⟨x0, x1, x2, _, _, _⟩ := ratbox_facts bA
    obtain ⟨y0, y1, y2, _, _, _⟩ := ratbox_facts bB
    clear hR hg
    clear bA bB bx0 bx1 hA hB
    go_wp2_with fail
    have hg := grown_drew wc none
    replace hV := hV.keep hg; replace hU := hU.keep hg; replace x0 := hg.cell x0 (by simp); replace x1 := hg.cell x1 (by simp)
    replace x2 := hg.cell x2 (by simp); replace y0 := hg.cell y0 (by simp); replace y1 := hg.cell y1 (by simp); replace y2 := hg.cell y2 (by simp)
    replace bx2 := (hg.block _ (lt_of_block bx2) (by simp)).trans bx2; replace hW := grown_trans hW hg
    clear hg
    go_region_held3 (fun w' => w'.cell? ⟨w.heap.size, 0, none⟩ = some (.bool g3) ∧ w'.cell? ⟨w.heap.size, 1, none⟩ = some (.slice p3 n3 c3) ∧ w'.cell? ⟨w.heap.size, 2, none⟩ = some (.slice q3 m3 d3) ∧ w'.cell? ⟨w.heap.size + 1, 0, none⟩ = some (.bool g4) ∧ w'.cell? ⟨w.heap.size + 1, 1, none⟩ = some (.slice p4 n4 c4) ∧ w'.cell? ⟨w.heap.size + 1, 2, none⟩ = some (.slice q4 m4 d4)) ((try go_split_ands) <;> (repeat' apply And.intro) <;> (repeat (first | (with_reducible assumption) | (with_reducible refine (grown_setCell _ _ _).cell ?_ (by first | (simp; omega) | simp)) | (with_reducible refine (World.grownBy_alloc _ _ none).cell ?_ (by simp)) | (with_reducible refine (grown_drew _ none).cell ?_ (by simp)))))
      (first
        | (go_at_call 91; (with_reducible refine (wholeT_any _ _ _).mono ?_); rintro ee v5 ⟨rfl, hg⟩; replace hV := hV.keep hg; replace hU := hU.keep hg; replace hX := hX.keep hg; replace x0 := hg.cell x0 (by simp); replace x1 := hg.cell x1 (by simp); replace x2 := hg.cell x2 (by simp); replace y0 := hg.cell y0 (by simp); replace y1 := hg.cell y1 (by simp); replace y2 := hg.cell y2 (by simp); replace bx2 := (hg.block _ (lt_of_block bx2) (by simp)).trans bx2; replace hW := grown_trans hW hg; clear hg)
        | (go_at_call 91; (with_reducible refine (wholeT_any _ _ _).mono ?_); rintro ee v5 ⟨rfl, hg⟩; replace hV := hV.keep hg; replace hU := hU.keep hg; replace x0 := hg.cell x0 (by simp); replace x1 := hg.cell x1 (by simp); replace x2 := hg.cell x2 (by simp); replace y0 := hg.cell y0 (by simp); replace y1 := hg.cell y1 (by simp); replace y2 := hg.cell y2 (by simp); replace bx2 := (hg.block _ (lt_of_block bx2) (by simp)).trans bx2; replace hW := grown_trans hW hg; clear hg)
        | (go_at_call 90; (with_reducible refine (rMul_any hV.nm.z (IsZ.of_n hU.dn.isN) (by omega) (by omega)).mono ?_); intro ee v6 HH; obtain ⟨g6, p6, n6, c6, he, hX, hn6, hg⟩ := HH; subst he; replace hV := hV.keep hg; replace hU := hU.keep hg; replace x0 := hg.cell x0 (by simp); replace x1 := hg.cell x1 (by simp); replace x2 := hg.cell x2 (by simp); replace y0 := hg.cell y0 (by simp); replace y1 := hg.cell y1 (by simp); replace y2 := hg.cell y2 (by simp); replace bx2 := (hg.block _ (lt_of_block bx2) (by simp)).trans bx2; replace hW := grown_trans hW hg; clear hg)
        | (go_at_call 90; (with_reducible refine (rMul_any hU.nm.z (IsZ.of_n hV.dn.isN) (by omega) (by omega)).mono ?_); intro ee v7 HH; obtain ⟨g7, p7, n7, c7, he, hY, hn7, hg⟩ := HH; subst he; replace hV := hV.keep hg; replace hU := hU.keep hg; replace hX := hX.keep hg; replace x0 := hg.cell x0 (by simp); replace x1 := hg.cell x1 (by simp); replace x2 := hg.cell x2 (by simp); replace y0 := hg.cell y0 (by simp); replace y1 := hg.cell y1 (by simp); replace y2 := hg.cell y2 (by simp); replace bx2 := (hg.block _ (lt_of_block bx2) (by simp)).trans bx2; replace hW := grown_trans hW hg; clear hg)
        | (go_at_call 78; (with_reducible refine (rMake_e (2 * S + 20) hX.z hY.z HZ.out (by omega) (by omega) (by omega)).mono ?_); rintro ee v8 ⟨rfl, hg⟩; replace hV := hV.keep hg; replace hU := hU.keep hg; replace hX := hX.keep hg; replace hY := hY.keep hg; replace x0 := hg.cell x0 (by simp); replace x1 := hg.cell x1 (by simp); replace x2 := hg.cell x2 (by simp); replace y0 := hg.cell y0 (by simp); replace y1 := hg.cell y1 (by simp); replace y2 := hg.cell y2 (by simp); replace bx2 := (hg.block _ (lt_of_block bx2) (by simp)).trans bx2; replace hW := grown_trans hW hg; clear hg; have ff := ratbox_facts bx2; obtain ⟨l0, l1, l2, f0, f1, f2⟩ := ff))
    go_wp2_with fail
    exact bodyPost_ret (v := .tuple #[.agg #[.bool false, .slice none 0 0, .slice none 0 0], .int .i64 3]) (by simp [results, Tryz.results60, go_sem, l0, l1, l2, f0, f1, f2]) rfl
      (EPost.close (by omega) hW _ _ _ _)

set_option maxRecDepth 20000 in
set_option maxHeartbeats 4000000 in
theorem rDiv3_v (S : Nat) {w : World} {g1 g2 : Bool} {p1 q1 p2 q2 : Option Addr} {n1 c1 m1 d1 n2 c2 m2 d2 : Nat} {v u : Rat} (hA : IsQ w g1 p1 n1 c1 q1 m1 d1 v) (hB : IsQ w g2 p2 n2 c2 q2 m2 d2 u) (h0 : u ≠ 0) (hn1 : n1 ≤ S) (hm1 : m1 ≤ S) (hn2 : n2 ≤ S) (hm2 : m2 ≤ S) (hS : S ≤ 10000) :
    Calls Tryz.prog 60 #[.agg #[.bool g1, .slice p1 n1 c1, .slice q1 m1 d1], .agg #[.bool g2, .slice p2 n2 c2, .slice q2 m2 d2]] w (MPost w (v / u) (8 * S + 100)) := by
  have hN : u.num ≠ 0 := fun h => h0 (Rat.num_eq_zero.1 h)
  have HZ := hid (show u.num * (v.den : Int) ≠ 0 from Int.mul_ne_zero hN (by have := v.den_pos; omega))
  have HV := hid (show ((v.num * (u.den : Int) : Int) : Rat) / ((u.num * (v.den : Int) : Int) : Rat) = v / u by rw [mk_div v.den_pos u.den_pos hN, Rat.mkRat_self, Rat.mkRat_self])
  clear h0 hN
  have hW := (grown_trans (grown_trans (World.grownBy_alloc w (.cells #[.bool g1, .slice p1 n1 c1, .slice q1 m1 d1] 27) none) (World.grownBy_alloc _ (.cells #[.bool g2, .slice p2 n2 c2, .slice q2 m2 d2] 27) none)) (World.grownBy_alloc _ (.cells #[.bool false, .slice none 0 0, .slice none 0 0] 27) none))
  have bx0 : (((w.alloc (.cells #[.bool g1, .slice p1 n1 c1, .slice q1 m1 d1] 27)).alloc (.cells #[.bool g2, .slice p2 n2 c2, .slice q2 m2 d2] 27)).alloc (.cells #[.bool false, .slice none 0 0, .slice none 0 0] 27)).heap[w.heap.size]? = some (.cells #[.bool g1, .slice p1 n1 c1, .slice q1 m1 d1] 27 (0, 0)) := by
    have h0 := heap_alloc_new w (.cells #[.bool g1, .slice p1 n1 c1, .slice q1 m1 d1] 27)
    have h1 := (grown_trans (World.grownBy_alloc (w.alloc (.cells #[.bool g1, .slice p1 n1 c1, .slice q1 m1 d1] 27)) (.cells #[.bool g2, .slice p2 n2 c2, .slice q2 m2 d2] 27) none) (World.grownBy_alloc _ (.cells #[.bool false, .slice none 0 0, .slice none 0 0] 27) none)).block _ (lt_of_block h0) (by simp)
    have h2 := h1.trans h0
    simpa using h2
  have bx1 : (((w.alloc (.cells #[.bool g1, .slice p1 n1 c1, .slice q1 m1 d1] 27)).alloc (.cells #[.bool g2, .slice p2 n2 c2, .slice q2 m2 d2] 27)).alloc (.cells #[.bool false, .slice none 0 0, .slice none 0 0] 27)).heap[w.heap.size + 1]? = some (.cells #[.bool g2, .slice p2 n2 c2, .slice q2 m2 d2] 27 (0, 0)) := by
    have h0 := heap_alloc_new (w.alloc (.cells #[.bool g1, .slice p1 n1 c1, .slice q1 m1 d1] 27)) (.cells #[.bool g2, .slice p2 n2 c2, .slice q2 m2 d2] 27)
    have h1 := (World.grownBy_alloc ((w.alloc (.cells #[.bool g1, .slice p1 n1 c1, .slice q1 m1 d1] 27)).alloc (.cells #[.bool g2, .slice p2 n2 c2, .slice q2 m2 d2] 27)) (.cells #[.bool false, .slice none 0 0, .slice none 0 0] 27) none).block _ (lt_of_block h0) (by simp)
    have h2 := h1.trans h0
    simpa using h2
  have bx2 : (((w.alloc (.cells #[.bool g1, .slice p1 n1 c1, .slice q1 m1 d1] 27)).alloc (.cells #[.bool g2, .slice p2 n2 c2, .slice q2 m2 d2] 27)).alloc (.cells #[.bool false, .slice none 0 0, .slice none 0 0] 27)).heap[w.heap.size + 1 + 1]? = some (.cells #[.bool false, .slice none 0 0, .slice none 0 0] 27 (0, 0)) := by
    have := heap_alloc_new ((w.alloc (.cells #[.bool g1, .slice p1 n1 c1, .slice q1 m1 d1] 27)).alloc (.cells #[.bool g2, .slice p2 n2 c2, .slice q2 m2 d2] 27)) (.cells #[.bool false, .slice none 0 0, .slice none 0 0] 27)
    simpa using this
  replace hA := hA.keep hW; replace hB := hB.keep hW
  go_enter Tryz.func60, Tryz.ntmps60
  go_wp2_with fail
  generalize (((w.alloc (.cells #[.bool g1, .slice p1 n1 c1, .slice q1 m1 d1] 27)).alloc (.cells #[.bool g2, .slice p2 n2 c2, .slice q2 m2 d2] 27)).alloc (.cells #[.bool false, .slice none 0 0, .slice none 0 0] 27)) = w0 at *
  have hR := grown_refl w0 none
  have hg := grown_drew w0 none
  go_cut [2] from 6 to 9 (fun s2 wx => s2 = .pointer (some ⟨w.heap.size, 0, none⟩) ∧ NRel v u w w0 (S + 4) wx)
  case first =>
    replace hA := hA.keep hg; replace hB := hB.keep hg; replace bx0 := (hg.block _ (lt_of_block bx0) (by simp)).trans bx0; replace bx1 := (hg.block _ (lt_of_block bx1) (by simp)).trans bx1; replace bx2 := (hg.block _ (lt_of_block bx2) (by simp)).trans bx2; replace hW := grown_trans hW hg; replace hR := grown_trans hR hg
    clear hg
    obtain ⟨x0, x1, x2, _, _, _⟩ := ratbox_facts bx0
    obtain ⟨y0, y1, y2, _, _, _⟩ := ratbox_facts bx1
    go_region_with (first
      | (go_at_call 88; (with_reducible refine (norm_v S hA hn1 hm1 (by omega)).mono ?_); intro ee v1 HH; obtain ⟨g3, p3, n3, c3, q3, m3, d3, he, hV, hn3, hm3, hg⟩ := HH; subst he; replace hA := hA.keep hg; replace hB := hB.keep hg; replace x0 := hg.cell x0 (by simp); replace x1 := hg.cell x1 (by simp); replace x2 := hg.cell x2 (by simp); replace y0 := hg.cell y0 (by simp); replace y1 := hg.cell y1 (by simp); replace y2 := hg.cell y2 (by simp); replace bx0 := (hg.block _ (lt_of_block bx0) (by simp)).trans bx0; replace bx1 := (hg.block _ (lt_of_block bx1) (by simp)).trans bx1; replace bx2 := (hg.block _ (lt_of_block bx2) (by simp)).trans bx2; replace hW := grown_trans hW hg; replace hR := grown_trans hR hg; clear hg)
      | (go_at_call 88; (with_reducible refine (norm_v S hB hn2 hm2 (by omega)).mono ?_); intro ee v2 HH; obtain ⟨g4, p4, n4, c4, q4, m4, d4, he, hU, hn4, hm4, hg⟩ := HH; subst he; replace hA := hA.keep hg; replace hB := hB.keep hg; replace hV := hV.keep hg; replace x0 := hg.cell x0 (by simp); replace x1 := hg.cell x1 (by simp); replace x2 := hg.cell x2 (by simp); replace y0 := hg.cell y0 (by simp); replace y1 := hg.cell y1 (by simp); replace y2 := hg.cell y2 (by simp); replace bx0 := (hg.block _ (lt_of_block bx0) (by simp)).trans bx0; replace bx1 := (hg.block _ (lt_of_block bx1) (by simp)).trans bx1; replace bx2 := (hg.block _ (lt_of_block bx2) (by simp)).trans bx2; replace hW := grown_trans hW hg; replace hR := grown_trans hR hg; clear hg; have ff := ratbox_facts bx0; obtain ⟨_, _, _, fa0, fa1, fa2⟩ := ff; have ff := ratbox_facts bx1; obtain ⟨_, _, _, fb0, fb1, fb2⟩ := ff))
    all_goals
      go_wp2_with fail
      go_meet
      refine ⟨rfl, ?_⟩
      first
        | with_reducible exact nrel_ab bx0 bx1 hV hU ⟨hn3, hm3⟩ ⟨hn4, hm4⟩ hW hR
        | with_reducible exact nrel_ba bx0 bx1 hV hU ⟨hn3, hm3⟩ ⟨hn4, hm4⟩ hW hR
  case rest =>
    obtain ⟨rfl, g3, g4, p3, q3, p4, q4, n3, c3, m3, d3, n4, c4, m4, d4, bA, bB, hV, hU, ⟨hn3, hm3⟩, ⟨hn4, hm4⟩, hW, hR⟩ := hcut
    replace bx2 := hR _ _ (by omega) bx2
    obtain ⟨x0, x1, x2, _, _, _⟩ := ratbox_facts bA
    obtain ⟨y0, y1, y2, _, _, _⟩ := ratbox_facts bB
    clear hR hg
    clear bA bB bx0 bx1 hA hB
    go_wp2_with fail
    have hg := grown_drew wc none
    replace hV := hV.keep hg; replace hU := hU.keep hg; replace x0 := hg.cell x0 (by simp); replace x1 := hg.cell x1 (by simp)
    replace x2 := hg.cell x2 (by simp); replace y0 := hg.cell y0 (by simp); replace y1 := hg.cell y1 (by simp); replace y2 := hg.cell y2 (by simp)
    replace bx2 := (hg.block _ (lt_of_block bx2) (by simp)).trans bx2; replace hW := grown_trans hW hg
    clear hg
    go_region_held3 (fun w' => w'.cell? ⟨w.heap.size, 0, none⟩ = some (.bool g3) ∧ w'.cell? ⟨w.heap.size, 1, none⟩ = some (.slice p3 n3 c3) ∧ w'.cell? ⟨w.heap.size, 2, none⟩ = some (.slice q3 m3 d3) ∧ w'.cell? ⟨w.heap.size + 1, 0, none⟩ = some (.bool g4) ∧ w'.cell? ⟨w.heap.size + 1, 1, none⟩ = some (.slice p4 n4 c4) ∧ w'.cell? ⟨w.heap.size + 1, 2, none⟩ = some (.slice q4 m4 d4)) ((try go_split_ands) <;> (repeat' apply And.intro) <;> (repeat (first | (with_reducible assumption) | (with_reducible refine (grown_setCell _ _ _).cell ?_ (by first | (simp; omega) | simp)) | (with_reducible refine (World.grownBy_alloc _ _ none).cell ?_ (by simp)) | (with_reducible refine (grown_drew _ none).cell ?_ (by simp)))))
      (first
        | (go_at_call 91; (with_reducible refine (wholeT_any _ _ _).mono ?_); rintro ee v5 ⟨rfl, hg⟩; replace hV := hV.keep hg; replace hU := hU.keep hg; replace hX := hX.keep hg; replace x0 := hg.cell x0 (by simp); replace x1 := hg.cell x1 (by simp); replace x2 := hg.cell x2 (by simp); replace y0 := hg.cell y0 (by simp); replace y1 := hg.cell y1 (by simp); replace y2 := hg.cell y2 (by simp); replace bx2 := (hg.block _ (lt_of_block bx2) (by simp)).trans bx2; replace hW := grown_trans hW hg; clear hg)
        | (go_at_call 91; (with_reducible refine (wholeT_any _ _ _).mono ?_); rintro ee v5 ⟨rfl, hg⟩; replace hV := hV.keep hg; replace hU := hU.keep hg; replace x0 := hg.cell x0 (by simp); replace x1 := hg.cell x1 (by simp); replace x2 := hg.cell x2 (by simp); replace y0 := hg.cell y0 (by simp); replace y1 := hg.cell y1 (by simp); replace y2 := hg.cell y2 (by simp); replace bx2 := (hg.block _ (lt_of_block bx2) (by simp)).trans bx2; replace hW := grown_trans hW hg; clear hg)
        | (go_at_call 90; (with_reducible refine (rMul_any hV.nm.z (IsZ.of_n hU.dn.isN) (by omega) (by omega)).mono ?_); intro ee v6 HH; obtain ⟨g6, p6, n6, c6, he, hX, hn6, hg⟩ := HH; subst he; replace hV := hV.keep hg; replace hU := hU.keep hg; replace x0 := hg.cell x0 (by simp); replace x1 := hg.cell x1 (by simp); replace x2 := hg.cell x2 (by simp); replace y0 := hg.cell y0 (by simp); replace y1 := hg.cell y1 (by simp); replace y2 := hg.cell y2 (by simp); replace bx2 := (hg.block _ (lt_of_block bx2) (by simp)).trans bx2; replace hW := grown_trans hW hg; clear hg)
        | (go_at_call 90; (with_reducible refine (rMul_any hU.nm.z (IsZ.of_n hV.dn.isN) (by omega) (by omega)).mono ?_); intro ee v7 HH; obtain ⟨g7, p7, n7, c7, he, hY, hn7, hg⟩ := HH; subst he; replace hV := hV.keep hg; replace hU := hU.keep hg; replace hX := hX.keep hg; replace x0 := hg.cell x0 (by simp); replace x1 := hg.cell x1 (by simp); replace x2 := hg.cell x2 (by simp); replace y0 := hg.cell y0 (by simp); replace y1 := hg.cell y1 (by simp); replace y2 := hg.cell y2 (by simp); replace bx2 := (hg.block _ (lt_of_block bx2) (by simp)).trans bx2; replace hW := grown_trans hW hg; clear hg)
        | (go_at_call 78; (with_reducible refine (rMake_v (2 * S + 20) hX.z hY.z HZ.out HV.out (by omega) (by omega) (by omega)).mono ?_); intro ee v8 HH; obtain ⟨g10, p10, n10, c10, q10, m10, d10, he, hZ, hn10, hm10, hg⟩ := HH; subst he; replace hV := hV.keep hg; replace hU := hU.keep hg; replace hX := hX.keep hg; replace hY := hY.keep hg; replace x0 := hg.cell x0 (by simp); replace x1 := hg.cell x1 (by simp); replace x2 := hg.cell x2 (by simp); replace y0 := hg.cell y0 (by simp); replace y1 := hg.cell y1 (by simp); replace y2 := hg.cell y2 (by simp); replace bx2 := (hg.block _ (lt_of_block bx2) (by simp)).trans bx2; replace hW := grown_trans hW hg; clear hg; have ff := ratbox_facts bx2; obtain ⟨l0, l1, l2, f0, f1, f2⟩ := ff))
    go_wp2_with fail
    exact bodyPost_ret (v := .tuple #[.agg #[.bool g10, .slice p10 n10 c10, .slice q10 m10 d10], .int .i64 0]) (by simp [results, Tryz.results60, go_sem, l0, l1, l2, f0, f1, f2]) rfl
      (MPost.close bx2 (by omega) hW hZ (by omega) (by omega))
end Go.Proofs.YtocfklanejonkaaGreatDoor
