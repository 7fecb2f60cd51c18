/-
  RatS RatT RatU, in one text.
-/
import Derived.Test.YtgbfjneoieadmaaGreatDoorMrR
import Derived.Deep.DeepCutAuto
import Derived.Test.YtgbfjneoieadmaaGreatDoorMrO
import Derived.Test.YtgbfjneoieadmaaGreatDoorMrA
import Derived.Lib.SmallJoins

set_option linter.unusedVariables false
set_option linter.unusedSimpArgs false
namespace Go.Proofs.YtgbfjneoieadmaaGreatDoor
open Go.RowKit Nm

theorem set3_block {w : World} {G : Nat} {x : Bool} {y z : Option Addr} {a b e f : Nat} {T : TypeId} (hb : w.heap[G]? = some (.cells #[.bool x, .slice y a b, .slice z e f] T (0, 0))) (g : Bool) (p : Option Addr) (n c : Nat) (q : Option Addr) (m d : Nat) :
    (((w.setCell ⟨G, 0, none⟩ (.bool g)).setCell ⟨G, 1, none⟩ (.slice p n c)).setCell ⟨G, 2, none⟩ (.slice q m d)).heap[G]? = some (.cells #[.bool g, .slice p n c, .slice q m d] T (0, 0)) := by
  have h1 := heap_setCell_same w G 0 _ _ (.bool g) hb
  have h2 := heap_setCell_same _ G 1 _ _ (.slice p n c) h1
  have h3 := heap_setCell_same _ G 2 _ _ (.slice q m d) h2
  rw [h3]
  simp
theorem IsV.other3 {w w' : World} {g : Bool} {p q : Option Addr} {n c m d G : Nat} {v : Rat} {x : Bool} {y z : Option Addr} {a b e f : Nat} {T : TypeId} (h : IsV w g p n c q m d v) (hb : w.heap[G]? = some (.cells #[.bool x, .slice y a b, .slice z e f] T (0, 0))) (hg : w.grownBy w' (some G)) : IsV w' g p n c q m d v :=
  ⟨⟨IsC.other3 h.1.1 hb hg, h.1.2⟩, h.2.other3 hb hg⟩

theorem IsV.nm {w : World} {g : Bool} {p q : Option Addr} {n c m d : Nat} {v : Rat} (h : IsV w g p n c q m d v) : IsI w g p n c v.num := h.1
theorem IsV.dn {w : World} {g : Bool} {p q : Option Addr} {n c m d : Nat} {v : Rat} (h : IsV w g p n c q m d v) : IsC w q m d v.den := h.2

/-- both arguments' boxes hold the valid forms -/
def NRel (v u : Rat) (w w1 : World) (b : Nat) (wx : World) : Prop :=
  ∃ (g h : Bool) (p q r s : Option Addr) (n c m d k a l e : Nat), wx.heap[w.heap.size]? = some (.cells #[.bool g, .slice p n c, .slice q m d] 27 (0, 0)) ∧ wx.heap[w.heap.size + 1]? = some (.cells #[.bool h, .slice r k a, .slice s l e] 27 (0, 0)) ∧
    IsV wx g p n c q m d v ∧ IsV wx h r k a s l e u ∧ (n ≤ b ∧ m ≤ b) ∧ (k ≤ b ∧ l ≤ b) ∧ w.grownBy wx none ∧ (∀ j x, w.heap.size + 1 < j → w1.heap[j]? = some x → wx.heap[j]? = some x)
section
variable {v u : Rat} {w w1 w2 : World} {b : Nat} {g h x1 x2 : Bool} {p q r s y1 z1 y2 z2 : Option Addr} {n c m d k a l e a1 b1 e1 f1 a2 b2 e2 f2 : Nat}
theorem nrel_ab (bA : w2.heap[w.heap.size]? = some (.cells #[.bool x1, .slice y1 a1 b1, .slice z1 e1 f1] 27 (0, 0))) (bB : w2.heap[w.heap.size + 1]? = some (.cells #[.bool x2, .slice y2 a2 b2, .slice z2 e2 f2] 27 (0, 0)))
    (hV : IsV w2 g p n c q m d v) (hU : IsV w2 h r k a s l e u) (s1 : n ≤ b ∧ m ≤ b) (s2 : k ≤ b ∧ l ≤ b) (hW : w.grownBy w2 none) (hR : w1.grownBy w2 none) :
    NRel v u w w1 b ((((((w2.setCell ⟨w.heap.size, 0, none⟩ (.bool g)).setCell ⟨w.heap.size, 1, none⟩ (.slice p n c)).setCell ⟨w.heap.size, 2, none⟩ (.slice q m d)).setCell ⟨w.heap.size + 1, 0, none⟩ (.bool h)).setCell ⟨w.heap.size + 1, 1, none⟩ (.slice r k a)).setCell ⟨w.heap.size + 1, 2, none⟩ (.slice s l e)) := by
  have h1 := set3_grown w2 w.heap.size (.bool g) (.slice p n c) (.slice q m d)
  have k1 := set3_block bA g p n c q m d
  have k2 := (h1.block (w.heap.size + 1) (lt_of_block bB) (by simp)).trans bB
  have v1 := hV.other3 bA h1
  have u1 := hU.other3 bA h1
  have g1 := grown_new hW h1 (fun g e => by cases e; omega)
  have r1 : ∀ j x, w.heap.size + 1 < j → w1.heap[j]? = some x → (((w2.setCell ⟨w.heap.size, 0, none⟩ (.bool g)).setCell ⟨w.heap.size, 1, none⟩ (.slice p n c)).setCell ⟨w.heap.size, 2, none⟩ (.slice q m d)).heap[j]? = some x := fun j x hj hx =>
    (h1.block j (lt_of_block ((hR.block j (lt_of_block hx) (by simp)).trans hx)) (by simp; omega)).trans ((hR.block j (lt_of_block hx) (by simp)).trans hx)
  generalize (((w2.setCell ⟨w.heap.size, 0, none⟩ (.bool g)).setCell ⟨w.heap.size, 1, none⟩ (.slice p n c)).setCell ⟨w.heap.size, 2, none⟩ (.slice q m d)) = w3 at *
  have h2 := set3_grown w3 (w.heap.size + 1) (.bool h) (.slice r k a) (.slice s l e)
  exact ⟨g, h, p, q, r, s, n, c, m, d, k, a, l, e, (h2.block _ (lt_of_block k1) (by simp)).trans k1, set3_block k2 h r k a s l e, v1.other3 k2 h2, u1.other3 k2 h2, s1, s2, grown_new g1 h2 (fun g e => by cases e; omega),
    fun j x hj hx => (h2.block j (lt_of_block (r1 j x hj hx)) (by simp; omega)).trans (r1 j x hj hx)⟩
theorem nrel_ba (bA : w2.heap[w.heap.size]? = some (.cells #[.bool x1, .slice y1 a1 b1, .slice z1 e1 f1] 27 (0, 0))) (bB : w2.heap[w.heap.size + 1]? = some (.cells #[.bool x2, .slice y2 a2 b2, .slice z2 e2 f2] 27 (0, 0)))
    (hV : IsV w2 g p n c q m d v) (hU : IsV w2 h r k a s l e u) (s1 : n ≤ b ∧ m ≤ b) (s2 : k ≤ b ∧ l ≤ b) (hW : w.grownBy w2 none) (hR : w1.grownBy w2 none) :
    NRel v u w w1 b ((((((w2.setCell ⟨w.heap.size + 1, 0, none⟩ (.bool h)).setCell ⟨w.heap.size + 1, 1, none⟩ (.slice r k a)).setCell ⟨w.heap.size + 1, 2, none⟩ (.slice s l e)).setCell ⟨w.heap.size, 0, none⟩ (.bool g)).setCell ⟨w.heap.size, 1, none⟩ (.slice p n c)).setCell ⟨w.heap.size, 2, none⟩ (.slice q m d)) := by
  have h1 := set3_grown w2 (w.heap.size + 1) (.bool h) (.slice r k a) (.slice s l e)
  have k1 := set3_block bB h r k a s l e
  have k2 := (h1.block w.heap.size (lt_of_block bA) (by simp)).trans bA
  have v1 := hV.other3 bB h1
  have u1 := hU.other3 bB h1
  have g1 := grown_new hW h1 (fun g e => by cases e; omega)
  have r1 : ∀ j x, w.heap.size + 1 < j → w1.heap[j]? = some x → (((w2.setCell ⟨w.heap.size + 1, 0, none⟩ (.bool h)).setCell ⟨w.heap.size + 1, 1, none⟩ (.slice r k a)).setCell ⟨w.heap.size + 1, 2, none⟩ (.slice s l e)).heap[j]? = some x := fun j x hj hx =>
    (h1.block j (lt_of_block ((hR.block j (lt_of_block hx) (by simp)).trans hx)) (by simp; omega)).trans ((hR.block j (lt_of_block hx) (by simp)).trans hx)
  generalize (((w2.setCell ⟨w.heap.size + 1, 0, none⟩ (.bool h)).setCell ⟨w.heap.size + 1, 1, none⟩ (.slice r k a)).setCell ⟨w.heap.size + 1, 2, none⟩ (.slice s l e)) = w3 at *
  have h2 := set3_grown w3 w.heap.size (.bool g) (.slice p n c) (.slice q m d)
  exact ⟨g, h, p, q, r, s, n, c, m, d, k, a, l, e, set3_block k2 g p n c q m d, (h2.block _ (lt_of_block k1) (by simp)).trans k1, v1.other3 k2 h2, u1.other3 k2 h2, s1, s2, grown_new g1 h2 (fun g e => by cases e; omega),
    fun j x hj hx => (h2.block j (lt_of_block (r1 j x hj hx)) (by simp; omega)).trans (r1 j x hj hx)⟩
end

set_option maxRecDepth 20000 in
set_option maxHeartbeats 4000000 in
theorem rSign3_v (S : Nat) {w : World} {g1 : Bool} {p1 q1 : Option Addr} {n1 c1 m1 d1 : Nat} {v : Rat} (hA : IsQ w g1 p1 n1 c1 q1 m1 d1 v) (hn1 : n1 ≤ S) (hm1 : m1 ≤ S) (hS : S ≤ 40000) :
    Calls Tryz.prog 54 #[.agg #[.bool g1, .slice p1 n1 c1, .slice q1 m1 d1]] w fun e w' => e = .returned (.int .i64 (cmpR v 0)) ∧ w.grownBy w' none := by
  have HV := hid (show cmpI v.num 0 = cmpR v 0 by rw [sign_q v.den_pos, Rat.mkRat_self])
  have hW := (World.grownBy_alloc w (.cells #[.bool g1, .slice p1 n1 c1, .slice q1 m1 d1] 27) none)
  have bx0 : (w.alloc (.cells #[.bool g1, .slice p1 n1 c1, .slice q1 m1 d1] 27)).heap[w.heap.size]? = some (.cells #[.bool g1, .slice p1 n1 c1, .slice q1 m1 d1] 27 (0, 0)) := by
    have := heap_alloc_new w (.cells #[.bool g1, .slice p1 n1 c1, .slice q1 m1 d1] 27)
    simpa using this
  obtain ⟨x0, x1, x2, _, _, _⟩ := ratbox_facts bx0
  clear bx0
  replace hA := hA.keep hW
  go_enter Tryz.func54, Tryz.ntmps54
  have hfd : ∀ (w : World) (g : Bool) (p : Option Addr) (n c : Nat) (q : Option Addr) (m d : Nat), (Instr.field 27 (.agg #[.bool g, .slice p n c, .slice q m d]) 0).run Tryz.prog w = .ok (.agg #[.bool g, .slice p n c]) w := fun _ _ _ _ _ _ _ _ => by kernel_rfl
  go_wp2_with fail
  generalize (w.alloc (.cells #[.bool g1, .slice p1 n1 c1, .slice q1 m1 d1] 27)) = w0 at *
  refine (norm_v S hA hn1 hm1 hS).mono ?_
  rintro ee v1 ⟨g3, p3, n3, c3, q3, m3, d3, rfl, hV, hn3, hm3, hg⟩
  replace hA := hA.keep hg; replace x0 := hg.cell x0 (by simp); replace x1 := hg.cell x1 (by simp); replace x2 := hg.cell x2 (by simp)
  replace hW := grown_trans hW hg
  clear hg
  go_wp2_with fail
  refine (rSign_any hV.nm.z (by omega)).mono ?_
  rintro ee v2 ⟨rfl, hg⟩
  rw [HV.out]
  replace hA := hA.keep hg; replace hV := hV.keep hg; replace x0 := hg.cell x0 (by simp); replace x1 := hg.cell x1 (by simp)
  replace x2 := hg.cell x2 (by simp); replace hW := grown_trans hW hg
  clear hg
  go_wp2_with fail
  go_ret
  exact ⟨rfl, hW⟩

set_option maxRecDepth 20000 in
set_option maxHeartbeats 4000000 in
theorem rCmp3_v (S : Nat) {w : World} {g1 g2 : Bool} {p1 q1 p2 q2 : Option Addr} {n1 c1 m1 d1 n2 c2 m2 d2 : Nat} {v u : Rat} (hA : IsQ w g1 p1 n1 c1 q1 m1 d1 v) (hB : IsQ w g2 p2 n2 c2 q2 m2 d2 u) (hn1 : n1 ≤ S) (hm1 : m1 ≤ S) (hn2 : n2 ≤ S) (hm2 : m2 ≤ S) (hS : S ≤ 40000) :
    Calls Tryz.prog 78 #[.agg #[.bool g1, .slice p1 n1 c1, .slice q1 m1 d1], .agg #[.bool g2, .slice p2 n2 c2, .slice q2 m2 d2]] w fun e w' => e = .returned (.int .i64 (cmpR v u)) ∧ w.grownBy w' none := by
  have HV := hid (show cmpI (v.num * (u.den : Int)) (u.num * (v.den : Int)) = cmpR v u by rw [cmp_q v.den_pos u.den_pos, Rat.mkRat_self, Rat.mkRat_self])
  have hW := (grown_trans (World.grownBy_alloc w (.cells #[.bool g1, .slice p1 n1 c1, .slice q1 m1 d1] 27) none) (World.grownBy_alloc _ (.cells #[.bool g2, .slice p2 n2 c2, .slice q2 m2 d2] 27) none))
  have bx0 : ((w.alloc (.cells #[.bool g1, .slice p1 n1 c1, .slice q1 m1 d1] 27)).alloc (.cells #[.bool g2, .slice p2 n2 c2, .slice q2 m2 d2] 27)).heap[w.heap.size]? = some (.cells #[.bool g1, .slice p1 n1 c1, .slice q1 m1 d1] 27 (0, 0)) := by
    have h0 := heap_alloc_new w (.cells #[.bool g1, .slice p1 n1 c1, .slice q1 m1 d1] 27)
    have h1 := (World.grownBy_alloc (w.alloc (.cells #[.bool g1, .slice p1 n1 c1, .slice q1 m1 d1] 27)) (.cells #[.bool g2, .slice p2 n2 c2, .slice q2 m2 d2] 27) none).block _ (lt_of_block h0) (by simp)
    have h2 := h1.trans h0
    simpa using h2
  have bx1 : ((w.alloc (.cells #[.bool g1, .slice p1 n1 c1, .slice q1 m1 d1] 27)).alloc (.cells #[.bool g2, .slice p2 n2 c2, .slice q2 m2 d2] 27)).heap[w.heap.size + 1]? = some (.cells #[.bool g2, .slice p2 n2 c2, .slice q2 m2 d2] 27 (0, 0)) := by
    have := heap_alloc_new (w.alloc (.cells #[.bool g1, .slice p1 n1 c1, .slice q1 m1 d1] 27)) (.cells #[.bool g2, .slice p2 n2 c2, .slice q2 m2 d2] 27)
    simpa using this
  replace hA := hA.keep hW; replace hB := hB.keep hW
  go_enter Tryz.func78, Tryz.ntmps78
  go_wp2_with fail
  generalize ((w.alloc (.cells #[.bool g1, .slice p1 n1 c1, .slice q1 m1 d1] 27)).alloc (.cells #[.bool g2, .slice p2 n2 c2, .slice q2 m2 d2] 27)) = w0 at *
  have hR := grown_refl w0 none
  have hg := grown_drew w0 none
  go_cut [2] from 5 to 8 (fun s2 wx => s2 = .pointer (some ⟨w.heap.size, 0, none⟩) ∧ NRel v u w w0 (S + 4) wx)
  case first =>
    replace hA := hA.keep hg; replace hB := hB.keep hg; replace bx0 := (hg.block _ (lt_of_block bx0) (by simp)).trans bx0; replace bx1 := (hg.block _ (lt_of_block bx1) (by simp)).trans bx1; replace hW := grown_trans hW hg; replace hR := grown_trans hR hg
    clear hg
    obtain ⟨x0, x1, x2, _, _, _⟩ := ratbox_facts bx0
    obtain ⟨y0, y1, y2, _, _, _⟩ := ratbox_facts bx1
    go_region_with (first
      | (go_at_call 108; (with_reducible refine (norm_v S hA hn1 hm1 hS).mono ?_); intro ee v1 HH; obtain ⟨g3, p3, n3, c3, q3, m3, d3, he, hV, hn3, hm3, hg⟩ := HH; subst he; replace hA := hA.keep hg; replace hB := hB.keep hg; replace x0 := hg.cell x0 (by simp); replace x1 := hg.cell x1 (by simp); replace x2 := hg.cell x2 (by simp); replace y0 := hg.cell y0 (by simp); replace y1 := hg.cell y1 (by simp); replace y2 := hg.cell y2 (by simp); replace bx0 := (hg.block _ (lt_of_block bx0) (by simp)).trans bx0; replace bx1 := (hg.block _ (lt_of_block bx1) (by simp)).trans bx1; replace hW := grown_trans hW hg; replace hR := grown_trans hR hg; clear hg)
      | (go_at_call 108; (with_reducible refine (norm_v S hB hn2 hm2 hS).mono ?_); intro ee v2 HH; obtain ⟨g4, p4, n4, c4, q4, m4, d4, he, hU, hn4, hm4, hg⟩ := HH; subst he; replace hA := hA.keep hg; replace hB := hB.keep hg; replace hV := hV.keep hg; replace x0 := hg.cell x0 (by simp); replace x1 := hg.cell x1 (by simp); replace x2 := hg.cell x2 (by simp); replace y0 := hg.cell y0 (by simp); replace y1 := hg.cell y1 (by simp); replace y2 := hg.cell y2 (by simp); replace bx0 := (hg.block _ (lt_of_block bx0) (by simp)).trans bx0; replace bx1 := (hg.block _ (lt_of_block bx1) (by simp)).trans bx1; replace hW := grown_trans hW hg; replace hR := grown_trans hR hg; clear hg; have ff := ratbox_facts bx0; obtain ⟨_, _, _, fa0, fa1, fa2⟩ := ff; have ff := ratbox_facts bx1; obtain ⟨_, _, _, fb0, fb1, fb2⟩ := ff))
    all_goals
      go_wp2_with fail
      go_meet
      refine ⟨rfl, ?_⟩
      first
        | with_reducible exact nrel_ab bx0 bx1 hV hU ⟨hn3, hm3⟩ ⟨hn4, hm4⟩ hW hR
        | with_reducible exact nrel_ba bx0 bx1 hV hU ⟨hn3, hm3⟩ ⟨hn4, hm4⟩ hW hR
  case rest =>
    obtain ⟨rfl, g3, g4, p3, q3, p4, q4, n3, c3, m3, d3, n4, c4, m4, d4, bA, bB, hV, hU, ⟨hn3, hm3⟩, ⟨hn4, hm4⟩, hW, hR⟩ := hcut
    obtain ⟨x0, x1, x2, _, _, _⟩ := ratbox_facts bA
    obtain ⟨y0, y1, y2, _, _, _⟩ := ratbox_facts bB
    clear hR hg
    clear bA bB bx0 bx1 hA hB
    go_wp2_with fail
    have hg := grown_drew wc none
    replace hV := hV.keep hg; replace hU := hU.keep hg; replace x0 := hg.cell x0 (by simp); replace x1 := hg.cell x1 (by simp)
    replace x2 := hg.cell x2 (by simp); replace y0 := hg.cell y0 (by simp); replace y1 := hg.cell y1 (by simp); replace y2 := hg.cell y2 (by simp)
    replace hW := grown_trans hW hg
    clear hg
    go_region_held3 (fun w' => w'.cell? ⟨w.heap.size, 0, none⟩ = some (.bool g3) ∧ w'.cell? ⟨w.heap.size, 1, none⟩ = some (.slice p3 n3 c3) ∧ w'.cell? ⟨w.heap.size, 2, none⟩ = some (.slice q3 m3 d3) ∧ w'.cell? ⟨w.heap.size + 1, 0, none⟩ = some (.bool g4) ∧ w'.cell? ⟨w.heap.size + 1, 1, none⟩ = some (.slice p4 n4 c4) ∧ w'.cell? ⟨w.heap.size + 1, 2, none⟩ = some (.slice q4 m4 d4)) ((try go_split_ands) <;> (repeat' apply And.intro) <;> (repeat (first | (with_reducible assumption) | (with_reducible refine (grown_setCell _ _ _).cell ?_ (by first | (simp; omega) | simp)) | (with_reducible refine (World.grownBy_alloc _ _ none).cell ?_ (by simp)) | (with_reducible refine (grown_drew _ none).cell ?_ (by simp)))))
      (first
        | (go_at_call 122; (with_reducible refine (wholeT_any _ _ _).mono ?_); rintro ee v5 ⟨rfl, hg⟩; replace hV := hV.keep hg; replace hU := hU.keep hg; replace hX := hX.keep hg; replace x0 := hg.cell x0 (by simp); replace x1 := hg.cell x1 (by simp); replace x2 := hg.cell x2 (by simp); replace y0 := hg.cell y0 (by simp); replace y1 := hg.cell y1 (by simp); replace y2 := hg.cell y2 (by simp); replace hW := grown_trans hW hg; clear hg)
        | (go_at_call 122; (with_reducible refine (wholeT_any _ _ _).mono ?_); rintro ee v5 ⟨rfl, hg⟩; replace hV := hV.keep hg; replace hU := hU.keep hg; replace x0 := hg.cell x0 (by simp); replace x1 := hg.cell x1 (by simp); replace x2 := hg.cell x2 (by simp); replace y0 := hg.cell y0 (by simp); replace y1 := hg.cell y1 (by simp); replace y2 := hg.cell y2 (by simp); replace hW := grown_trans hW hg; clear hg)
        | (go_at_call 121; (with_reducible refine (rMul_any hV.nm.z (IsZ.of_n hU.dn.isN) (by omega) (by omega)).mono ?_); intro ee v6 HH; obtain ⟨g6, p6, n6, c6, he, hX, hn6, hg⟩ := HH; subst he; replace hV := hV.keep hg; replace hU := hU.keep hg; replace x0 := hg.cell x0 (by simp); replace x1 := hg.cell x1 (by simp); replace x2 := hg.cell x2 (by simp); replace y0 := hg.cell y0 (by simp); replace y1 := hg.cell y1 (by simp); replace y2 := hg.cell y2 (by simp); replace hW := grown_trans hW hg; clear hg)
        | (go_at_call 121; (with_reducible refine (rMul_any hU.nm.z (IsZ.of_n hV.dn.isN) (by omega) (by omega)).mono ?_); intro ee v7 HH; obtain ⟨g7, p7, n7, c7, he, hY, hn7, hg⟩ := HH; subst he; replace hV := hV.keep hg; replace hU := hU.keep hg; replace hX := hX.keep hg; replace x0 := hg.cell x0 (by simp); replace x1 := hg.cell x1 (by simp); replace x2 := hg.cell x2 (by simp); replace y0 := hg.cell y0 (by simp); replace y1 := hg.cell y1 (by simp); replace y2 := hg.cell y2 (by simp); replace hW := grown_trans hW hg; clear hg)
        | (go_at_call 120; (with_reducible refine (rCmp_any hX.z hY.z (by omega) (by omega)).mono ?_); rintro ee v8 ⟨rfl, hg⟩; rw [HV.out]; replace hV := hV.keep hg; replace hU := hU.keep hg; replace hX := hX.keep hg; replace hY := hY.keep hg; replace x0 := hg.cell x0 (by simp); replace x1 := hg.cell x1 (by simp); replace x2 := hg.cell x2 (by simp); replace y0 := hg.cell y0 (by simp); replace y1 := hg.cell y1 (by simp); replace y2 := hg.cell y2 (by simp); replace hW := grown_trans hW hg; clear hg))
    go_wp2_with fail
    go_ret
    exact ⟨rfl, hW⟩

set_option maxRecDepth 20000 in
set_option maxHeartbeats 4000000 in
theorem rEqual3_v (S : Nat) {w : World} {g1 g2 : Bool} {p1 q1 p2 q2 : Option Addr} {n1 c1 m1 d1 n2 c2 m2 d2 : Nat} {v u : Rat} (hA : IsQ w g1 p1 n1 c1 q1 m1 d1 v) (hB : IsQ w g2 p2 n2 c2 q2 m2 d2 u) (hn1 : n1 ≤ S) (hm1 : m1 ≤ S) (hn2 : n2 ≤ S) (hm2 : m2 ≤ S) (hS : S ≤ 40000) :
    Calls Tryz.prog 22 #[.agg #[.bool g1, .slice p1 n1 c1, .slice q1 m1 d1], .agg #[.bool g2, .slice p2 n2 c2, .slice q2 m2 d2]] w fun e w' => e = .returned (.bool (decide (v = u))) ∧ w.grownBy w' none := by
  have EQ := hid (show (cmpR v u == 0) = decide (v = u) by
    by_cases h : v = u
    · rw [decide_eq_true h, cmpR_zero.2 h]; rfl
    · rw [decide_eq_false h]; exact beq_eq_false_iff_ne.2 (fun k => h (cmpR_zero.1 k)))
  have hW := (grown_trans (World.grownBy_alloc w (.cells #[.bool g1, .slice p1 n1 c1, .slice q1 m1 d1] 27) none) (World.grownBy_alloc _ (.cells #[.bool g2, .slice p2 n2 c2, .slice q2 m2 d2] 27) none))
  have bx0 : ((w.alloc (.cells #[.bool g1, .slice p1 n1 c1, .slice q1 m1 d1] 27)).alloc (.cells #[.bool g2, .slice p2 n2 c2, .slice q2 m2 d2] 27)).heap[w.heap.size]? = some (.cells #[.bool g1, .slice p1 n1 c1, .slice q1 m1 d1] 27 (0, 0)) := by
    have h0 := heap_alloc_new w (.cells #[.bool g1, .slice p1 n1 c1, .slice q1 m1 d1] 27)
    have h1 := (World.grownBy_alloc (w.alloc (.cells #[.bool g1, .slice p1 n1 c1, .slice q1 m1 d1] 27)) (.cells #[.bool g2, .slice p2 n2 c2, .slice q2 m2 d2] 27) none).block _ (lt_of_block h0) (by simp)
    have h2 := h1.trans h0
    simpa using h2
  obtain ⟨x0, x1, x2, _, _, _⟩ := ratbox_facts bx0
  clear bx0
  have bx1 : ((w.alloc (.cells #[.bool g1, .slice p1 n1 c1, .slice q1 m1 d1] 27)).alloc (.cells #[.bool g2, .slice p2 n2 c2, .slice q2 m2 d2] 27)).heap[w.heap.size + 1]? = some (.cells #[.bool g2, .slice p2 n2 c2, .slice q2 m2 d2] 27 (0, 0)) := by
    have := heap_alloc_new (w.alloc (.cells #[.bool g1, .slice p1 n1 c1, .slice q1 m1 d1] 27)) (.cells #[.bool g2, .slice p2 n2 c2, .slice q2 m2 d2] 27)
    simpa using this
  obtain ⟨y0, y1, y2, _, _, _⟩ := ratbox_facts bx1
  clear bx1
  replace hA := hA.keep hW; replace hB := hB.keep hW
  go_enter Tryz.func22, Tryz.ntmps22
  go_wp2_with fail
  generalize ((w.alloc (.cells #[.bool g1, .slice p1 n1 c1, .slice q1 m1 d1] 27)).alloc (.cells #[.bool g2, .slice p2 n2 c2, .slice q2 m2 d2] 27)) = w0 at *
  refine (rCmp3_v S hA hB hn1 hm1 hn2 hm2 hS).mono ?_
  rintro ee v1 ⟨rfl, hg⟩
  replace hA := hA.keep hg; replace hB := hB.keep hg; replace x0 := hg.cell x0 (by simp); replace x1 := hg.cell x1 (by simp)
  replace x2 := hg.cell x2 (by simp); replace y0 := hg.cell y0 (by simp); replace y1 := hg.cell y1 (by simp); replace y2 := hg.cell y2 (by simp)
  replace hW := grown_trans hW hg
  clear hg
  go_wp2_with fail
  go_ret
  exact ⟨congrArg Ending.returned (congrArg Value.bool EQ.out), hW⟩

set_option maxRecDepth 20000 in
set_option maxHeartbeats 4000000 in
theorem rAdd3_v (S : Nat) {w : World} {g1 g2 : Bool} {p1 q1 p2 q2 : Option Addr} {n1 c1 m1 d1 n2 c2 m2 d2 : Nat} {v u : Rat} (hA : IsQ w g1 p1 n1 c1 q1 m1 d1 v) (hB : IsQ w g2 p2 n2 c2 q2 m2 d2 u) (hn1 : n1 ≤ S) (hm1 : m1 ≤ S) (hn2 : n2 ≤ S) (hm2 : m2 ≤ S) (hS : S ≤ 20000) :
    Calls Tryz.prog 104 #[.agg #[.bool g1, .slice p1 n1 c1, .slice q1 m1 d1], .agg #[.bool g2, .slice p2 n2 c2, .slice q2 m2 d2]] w (VPost w (v + u) (8 * S + 60)) := by
  have HV := hid (show mkRat (v.num * (u.den : Int) + u.num * (v.den : Int)) (v.den * u.den) = v + u by
    have := Rat.mkRat_add_mkRat v.num u.num v.den_nz u.den_nz
    rw [Rat.mkRat_self, Rat.mkRat_self] at this
    exact this.symm)
  have hW := (grown_trans (grown_trans (World.grownBy_alloc w (.cells #[.bool g1, .slice p1 n1 c1, .slice q1 m1 d1] 27) none) (World.grownBy_alloc _ (.cells #[.bool g2, .slice p2 n2 c2, .slice q2 m2 d2] 27) none)) (World.grownBy_alloc _ (.cells #[.bool false, .slice none 0 0, .slice none 0 0] 27) none))
  have bx0 : (((w.alloc (.cells #[.bool g1, .slice p1 n1 c1, .slice q1 m1 d1] 27)).alloc (.cells #[.bool g2, .slice p2 n2 c2, .slice q2 m2 d2] 27)).alloc (.cells #[.bool false, .slice none 0 0, .slice none 0 0] 27)).heap[w.heap.size]? = some (.cells #[.bool g1, .slice p1 n1 c1, .slice q1 m1 d1] 27 (0, 0)) := by
    have h0 := heap_alloc_new w (.cells #[.bool g1, .slice p1 n1 c1, .slice q1 m1 d1] 27)
    have h1 := (grown_trans (World.grownBy_alloc (w.alloc (.cells #[.bool g1, .slice p1 n1 c1, .slice q1 m1 d1] 27)) (.cells #[.bool g2, .slice p2 n2 c2, .slice q2 m2 d2] 27) none) (World.grownBy_alloc _ (.cells #[.bool false, .slice none 0 0, .slice none 0 0] 27) none)).block _ (lt_of_block h0) (by simp)
    have h2 := h1.trans h0
    simpa using h2
  have bx1 : (((w.alloc (.cells #[.bool g1, .slice p1 n1 c1, .slice q1 m1 d1] 27)).alloc (.cells #[.bool g2, .slice p2 n2 c2, .slice q2 m2 d2] 27)).alloc (.cells #[.bool false, .slice none 0 0, .slice none 0 0] 27)).heap[w.heap.size + 1]? = some (.cells #[.bool g2, .slice p2 n2 c2, .slice q2 m2 d2] 27 (0, 0)) := by
    have h0 := heap_alloc_new (w.alloc (.cells #[.bool g1, .slice p1 n1 c1, .slice q1 m1 d1] 27)) (.cells #[.bool g2, .slice p2 n2 c2, .slice q2 m2 d2] 27)
    have h1 := (World.grownBy_alloc ((w.alloc (.cells #[.bool g1, .slice p1 n1 c1, .slice q1 m1 d1] 27)).alloc (.cells #[.bool g2, .slice p2 n2 c2, .slice q2 m2 d2] 27)) (.cells #[.bool false, .slice none 0 0, .slice none 0 0] 27) none).block _ (lt_of_block h0) (by simp)
    have h2 := h1.trans h0
    simpa using h2
  have bx2 : (((w.alloc (.cells #[.bool g1, .slice p1 n1 c1, .slice q1 m1 d1] 27)).alloc (.cells #[.bool g2, .slice p2 n2 c2, .slice q2 m2 d2] 27)).alloc (.cells #[.bool false, .slice none 0 0, .slice none 0 0] 27)).heap[w.heap.size + 1 + 1]? = some (.cells #[.bool false, .slice none 0 0, .slice none 0 0] 27 (0, 0)) := by
    have := heap_alloc_new ((w.alloc (.cells #[.bool g1, .slice p1 n1 c1, .slice q1 m1 d1] 27)).alloc (.cells #[.bool g2, .slice p2 n2 c2, .slice q2 m2 d2] 27)) (.cells #[.bool false, .slice none 0 0, .slice none 0 0] 27)
    simpa using this
  replace hA := hA.keep hW; replace hB := hB.keep hW
  go_enter Tryz.func104, Tryz.ntmps104
  go_wp2_with fail
  generalize (((w.alloc (.cells #[.bool g1, .slice p1 n1 c1, .slice q1 m1 d1] 27)).alloc (.cells #[.bool g2, .slice p2 n2 c2, .slice q2 m2 d2] 27)).alloc (.cells #[.bool false, .slice none 0 0, .slice none 0 0] 27)) = w0 at *
  have hR := grown_refl w0 none
  have hg := grown_drew w0 none
  go_cut [2] from 5 to 8 (fun s2 wx => s2 = .pointer (some ⟨w.heap.size, 0, none⟩) ∧ NRel v u w w0 (S + 4) wx)
  case first =>
    replace hA := hA.keep hg; replace hB := hB.keep hg; replace bx0 := (hg.block _ (lt_of_block bx0) (by simp)).trans bx0; replace bx1 := (hg.block _ (lt_of_block bx1) (by simp)).trans bx1; replace bx2 := (hg.block _ (lt_of_block bx2) (by simp)).trans bx2; replace hW := grown_trans hW hg; replace hR := grown_trans hR hg
    clear hg
    obtain ⟨x0, x1, x2, _, _, _⟩ := ratbox_facts bx0
    obtain ⟨y0, y1, y2, _, _, _⟩ := ratbox_facts bx1
    go_region_with (first
      | (go_at_call 108; (with_reducible refine (norm_v S hA hn1 hm1 (by omega)).mono ?_); intro ee v1 HH; obtain ⟨g3, p3, n3, c3, q3, m3, d3, he, hV, hn3, hm3, hg⟩ := HH; subst he; replace hA := hA.keep hg; replace hB := hB.keep hg; replace x0 := hg.cell x0 (by simp); replace x1 := hg.cell x1 (by simp); replace x2 := hg.cell x2 (by simp); replace y0 := hg.cell y0 (by simp); replace y1 := hg.cell y1 (by simp); replace y2 := hg.cell y2 (by simp); replace bx0 := (hg.block _ (lt_of_block bx0) (by simp)).trans bx0; replace bx1 := (hg.block _ (lt_of_block bx1) (by simp)).trans bx1; replace bx2 := (hg.block _ (lt_of_block bx2) (by simp)).trans bx2; replace hW := grown_trans hW hg; replace hR := grown_trans hR hg; clear hg)
      | (go_at_call 108; (with_reducible refine (norm_v S hB hn2 hm2 (by omega)).mono ?_); intro ee v2 HH; obtain ⟨g4, p4, n4, c4, q4, m4, d4, he, hU, hn4, hm4, hg⟩ := HH; subst he; replace hA := hA.keep hg; replace hB := hB.keep hg; replace hV := hV.keep hg; replace x0 := hg.cell x0 (by simp); replace x1 := hg.cell x1 (by simp); replace x2 := hg.cell x2 (by simp); replace y0 := hg.cell y0 (by simp); replace y1 := hg.cell y1 (by simp); replace y2 := hg.cell y2 (by simp); replace bx0 := (hg.block _ (lt_of_block bx0) (by simp)).trans bx0; replace bx1 := (hg.block _ (lt_of_block bx1) (by simp)).trans bx1; replace bx2 := (hg.block _ (lt_of_block bx2) (by simp)).trans bx2; replace hW := grown_trans hW hg; replace hR := grown_trans hR hg; clear hg; have ff := ratbox_facts bx0; obtain ⟨_, _, _, fa0, fa1, fa2⟩ := ff; have ff := ratbox_facts bx1; obtain ⟨_, _, _, fb0, fb1, fb2⟩ := ff))
    all_goals
      go_wp2_with fail
      go_meet
      refine ⟨rfl, ?_⟩
      first
        | with_reducible exact nrel_ab bx0 bx1 hV hU ⟨hn3, hm3⟩ ⟨hn4, hm4⟩ hW hR
        | with_reducible exact nrel_ba bx0 bx1 hV hU ⟨hn3, hm3⟩ ⟨hn4, hm4⟩ hW hR
  case rest =>
    obtain ⟨rfl, g3, g4, p3, q3, p4, q4, n3, c3, m3, d3, n4, c4, m4, d4, bA, bB, hV, hU, ⟨hn3, hm3⟩, ⟨hn4, hm4⟩, hW, hR⟩ := hcut
    replace bx2 := hR _ _ (by omega) bx2
    obtain ⟨x0, x1, x2, _, _, _⟩ := ratbox_facts bA
    obtain ⟨y0, y1, y2, _, _, _⟩ := ratbox_facts bB
    clear hR hg
    clear bA bB bx0 bx1 hA hB
    go_wp2_with fail
    have hg := grown_drew wc none
    replace hV := hV.keep hg; replace hU := hU.keep hg; replace x0 := hg.cell x0 (by simp); replace x1 := hg.cell x1 (by simp)
    replace x2 := hg.cell x2 (by simp); replace y0 := hg.cell y0 (by simp); replace y1 := hg.cell y1 (by simp); replace y2 := hg.cell y2 (by simp)
    replace bx2 := (hg.block _ (lt_of_block bx2) (by simp)).trans bx2; replace hW := grown_trans hW hg
    clear hg
    go_region_held3 (fun w' => w'.cell? ⟨w.heap.size, 0, none⟩ = some (.bool g3) ∧ w'.cell? ⟨w.heap.size, 1, none⟩ = some (.slice p3 n3 c3) ∧ w'.cell? ⟨w.heap.size, 2, none⟩ = some (.slice q3 m3 d3) ∧ w'.cell? ⟨w.heap.size + 1, 0, none⟩ = some (.bool g4) ∧ w'.cell? ⟨w.heap.size + 1, 1, none⟩ = some (.slice p4 n4 c4) ∧ w'.cell? ⟨w.heap.size + 1, 2, none⟩ = some (.slice q4 m4 d4)) ((try go_split_ands) <;> (repeat' apply And.intro) <;> (repeat (first | (with_reducible assumption) | (with_reducible refine (grown_setCell _ _ _).cell ?_ (by first | (simp; omega) | simp)) | (with_reducible refine (World.grownBy_alloc _ _ none).cell ?_ (by simp)) | (with_reducible refine (grown_drew _ none).cell ?_ (by simp)))))
      (first
        | (go_at_call 122; (with_reducible refine (wholeT_any _ _ _).mono ?_); rintro ee v5 ⟨rfl, hg⟩; replace hV := hV.keep hg; replace hU := hU.keep hg; replace hX := hX.keep hg; replace x0 := hg.cell x0 (by simp); replace x1 := hg.cell x1 (by simp); replace x2 := hg.cell x2 (by simp); replace y0 := hg.cell y0 (by simp); replace y1 := hg.cell y1 (by simp); replace y2 := hg.cell y2 (by simp); replace bx2 := (hg.block _ (lt_of_block bx2) (by simp)).trans bx2; replace hW := grown_trans hW hg; clear hg)
        | (go_at_call 122; (with_reducible refine (wholeT_any _ _ _).mono ?_); rintro ee v5 ⟨rfl, hg⟩; replace hV := hV.keep hg; replace hU := hU.keep hg; replace x0 := hg.cell x0 (by simp); replace x1 := hg.cell x1 (by simp); replace x2 := hg.cell x2 (by simp); replace y0 := hg.cell y0 (by simp); replace y1 := hg.cell y1 (by simp); replace y2 := hg.cell y2 (by simp); replace bx2 := (hg.block _ (lt_of_block bx2) (by simp)).trans bx2; replace hW := grown_trans hW hg; clear hg)
        | (go_at_call 121; (with_reducible refine (rMul_any hV.nm.z (IsZ.of_n hU.dn.isN) (by omega) (by omega)).mono ?_); intro ee v6 HH; obtain ⟨g6, p6, n6, c6, he, hX, hn6, hg⟩ := HH; subst he; replace hV := hV.keep hg; replace hU := hU.keep hg; replace x0 := hg.cell x0 (by simp); replace x1 := hg.cell x1 (by simp); replace x2 := hg.cell x2 (by simp); replace y0 := hg.cell y0 (by simp); replace y1 := hg.cell y1 (by simp); replace y2 := hg.cell y2 (by simp); replace bx2 := (hg.block _ (lt_of_block bx2) (by simp)).trans bx2; replace hW := grown_trans hW hg; clear hg)
        | (go_at_call 121; (with_reducible refine (rMul_any hU.nm.z (IsZ.of_n hV.dn.isN) (by omega) (by omega)).mono ?_); intro ee v7 HH; obtain ⟨g7, p7, n7, c7, he, hY, hn7, hg⟩ := HH; subst he; replace hV := hV.keep hg; replace hU := hU.keep hg; replace hX := hX.keep hg; replace x0 := hg.cell x0 (by simp); replace x1 := hg.cell x1 (by simp); replace x2 := hg.cell x2 (by simp); replace y0 := hg.cell y0 (by simp); replace y1 := hg.cell y1 (by simp); replace y2 := hg.cell y2 (by simp); replace bx2 := (hg.block _ (lt_of_block bx2) (by simp)).trans bx2; replace hW := grown_trans hW hg; clear hg)
        | (go_at_call 140; (with_reducible refine (rAdd_any hX.z hY.z (by omega) (by omega)).mono ?_); intro ee v8 HH; obtain ⟨g8, p8, n8, c8, he, hP, hn8, hg⟩ := HH; subst he; replace hV := hV.keep hg; replace hU := hU.keep hg; replace hX := hX.keep hg; replace hY := hY.keep hg; replace x0 := hg.cell x0 (by simp); replace x1 := hg.cell x1 (by simp); replace x2 := hg.cell x2 (by simp); replace y0 := hg.cell y0 (by simp); replace y1 := hg.cell y1 (by simp); replace y2 := hg.cell y2 (by simp); replace bx2 := (hg.block _ (lt_of_block bx2) (by simp)).trans bx2; replace hW := grown_trans hW hg; clear hg)
        | (go_at_call 129; (with_reducible refine (refMul_n hV.dn.isN hU.dn.isN (by omega) (by omega)).mono ?_); intro ee v9 HH; obtain ⟨q9, m9, d9, he, hQ, hm9, hg⟩ := HH; subst he; replace hV := hV.keep hg; replace hU := hU.keep hg; replace hX := hX.keep hg; replace hY := hY.keep hg; replace hP := hP.keep hg; replace x0 := hg.cell x0 (by simp); replace x1 := hg.cell x1 (by simp); replace x2 := hg.cell x2 (by simp); replace y0 := hg.cell y0 (by simp); replace y1 := hg.cell y1 (by simp); replace y2 := hg.cell y2 (by simp); replace bx2 := (hg.block _ (lt_of_block bx2) (by simp)).trans bx2; replace hW := grown_trans hW hg; clear hg)
        | (go_at_call 123; (with_reducible refine (over_v (8 * S + 60) hP.z hQ.isN HV.out (by omega) (by omega) (by omega)).mono ?_); intro ee v10 HH; obtain ⟨g10, p10, n10, c10, q10, m10, d10, he, hZ, hn10, hm10, hg⟩ := HH; subst he; replace hV := hV.keep hg; replace hU := hU.keep hg; replace hX := hX.keep hg; replace hY := hY.keep hg; replace hP := hP.keep hg; replace hQ := hQ.keep hg; replace x0 := hg.cell x0 (by simp); replace x1 := hg.cell x1 (by simp); replace x2 := hg.cell x2 (by simp); replace y0 := hg.cell y0 (by simp); replace y1 := hg.cell y1 (by simp); replace y2 := hg.cell y2 (by simp); replace bx2 := (hg.block _ (lt_of_block bx2) (by simp)).trans bx2; replace hW := grown_trans hW hg; clear hg; have ff := ratbox_facts bx2; obtain ⟨l0, l1, l2, f0, f1, f2⟩ := ff))
    go_wp2_with fail
    exact bodyPost_ret (v := .agg #[.bool g10, .slice p10 n10 c10, .slice q10 m10 d10]) (by simp [results, Tryz.results104, go_sem, l0, l1, l2, f0, f1, f2]) rfl
      (VPost.close bx2 (by omega) hW hZ hn10 hm10)

set_option maxRecDepth 20000 in
set_option maxHeartbeats 4000000 in
theorem rSub3_v (S : Nat) {w : World} {g1 g2 : Bool} {p1 q1 p2 q2 : Option Addr} {n1 c1 m1 d1 n2 c2 m2 d2 : Nat} {v u : Rat} (hA : IsQ w g1 p1 n1 c1 q1 m1 d1 v) (hB : IsQ w g2 p2 n2 c2 q2 m2 d2 u) (hn1 : n1 ≤ S) (hm1 : m1 ≤ S) (hn2 : n2 ≤ S) (hm2 : m2 ≤ S) (hS : S ≤ 10000) :
    Calls Tryz.prog 98 #[.agg #[.bool g1, .slice p1 n1 c1, .slice q1 m1 d1], .agg #[.bool g2, .slice p2 n2 c2, .slice q2 m2 d2]] w (VPost w (v - u) (8 * S + 100)) := by
  have hW := (grown_trans (grown_trans (World.grownBy_alloc w (.cells #[.bool g1, .slice p1 n1 c1, .slice q1 m1 d1] 27) none) (World.grownBy_alloc _ (.cells #[.bool g2, .slice p2 n2 c2, .slice q2 m2 d2] 27) none)) (World.grownBy_alloc _ (.cells #[.bool false, .slice none 0 0, .slice none 0 0] 27) none))
  have bx0 : (((w.alloc (.cells #[.bool g1, .slice p1 n1 c1, .slice q1 m1 d1] 27)).alloc (.cells #[.bool g2, .slice p2 n2 c2, .slice q2 m2 d2] 27)).alloc (.cells #[.bool false, .slice none 0 0, .slice none 0 0] 27)).heap[w.heap.size]? = some (.cells #[.bool g1, .slice p1 n1 c1, .slice q1 m1 d1] 27 (0, 0)) := by
    have h0 := heap_alloc_new w (.cells #[.bool g1, .slice p1 n1 c1, .slice q1 m1 d1] 27)
    have h1 := (grown_trans (World.grownBy_alloc (w.alloc (.cells #[.bool g1, .slice p1 n1 c1, .slice q1 m1 d1] 27)) (.cells #[.bool g2, .slice p2 n2 c2, .slice q2 m2 d2] 27) none) (World.grownBy_alloc _ (.cells #[.bool false, .slice none 0 0, .slice none 0 0] 27) none)).block _ (lt_of_block h0) (by simp)
    have h2 := h1.trans h0
    simpa using h2
  obtain ⟨x0, x1, x2, _, _, _⟩ := ratbox_facts bx0
  clear bx0
  have bx1 : (((w.alloc (.cells #[.bool g1, .slice p1 n1 c1, .slice q1 m1 d1] 27)).alloc (.cells #[.bool g2, .slice p2 n2 c2, .slice q2 m2 d2] 27)).alloc (.cells #[.bool false, .slice none 0 0, .slice none 0 0] 27)).heap[w.heap.size + 1]? = some (.cells #[.bool g2, .slice p2 n2 c2, .slice q2 m2 d2] 27 (0, 0)) := by
    have h0 := heap_alloc_new (w.alloc (.cells #[.bool g1, .slice p1 n1 c1, .slice q1 m1 d1] 27)) (.cells #[.bool g2, .slice p2 n2 c2, .slice q2 m2 d2] 27)
    have h1 := (World.grownBy_alloc ((w.alloc (.cells #[.bool g1, .slice p1 n1 c1, .slice q1 m1 d1] 27)).alloc (.cells #[.bool g2, .slice p2 n2 c2, .slice q2 m2 d2] 27)) (.cells #[.bool false, .slice none 0 0, .slice none 0 0] 27) none).block _ (lt_of_block h0) (by simp)
    have h2 := h1.trans h0
    simpa using h2
  obtain ⟨y0, y1, y2, _, _, _⟩ := ratbox_facts bx1
  clear bx1
  have bx2 : (((w.alloc (.cells #[.bool g1, .slice p1 n1 c1, .slice q1 m1 d1] 27)).alloc (.cells #[.bool g2, .slice p2 n2 c2, .slice q2 m2 d2] 27)).alloc (.cells #[.bool false, .slice none 0 0, .slice none 0 0] 27)).heap[w.heap.size + 1 + 1]? = some (.cells #[.bool false, .slice none 0 0, .slice none 0 0] 27 (0, 0)) := by
    have := heap_alloc_new ((w.alloc (.cells #[.bool g1, .slice p1 n1 c1, .slice q1 m1 d1] 27)).alloc (.cells #[.bool g2, .slice p2 n2 c2, .slice q2 m2 d2] 27)) (.cells #[.bool false, .slice none 0 0, .slice none 0 0] 27)
    simpa using this
  replace hA := hA.keep hW; replace hB := hB.keep hW
  go_enter Tryz.func98, Tryz.ntmps98
  go_wp2_with fail
  generalize (((w.alloc (.cells #[.bool g1, .slice p1 n1 c1, .slice q1 m1 d1] 27)).alloc (.cells #[.bool g2, .slice p2 n2 c2, .slice q2 m2 d2] 27)).alloc (.cells #[.bool false, .slice none 0 0, .slice none 0 0] 27)) = w0 at *
  have hg := grown_drew w0 none
  replace hA := hA.keep hg; replace hB := hB.keep hg; replace x0 := hg.cell x0 (by simp); replace x1 := hg.cell x1 (by simp)
  replace x2 := hg.cell x2 (by simp); replace y0 := hg.cell y0 (by simp); replace y1 := hg.cell y1 (by simp); replace y2 := hg.cell y2 (by simp)
  replace bx2 := (hg.block _ (lt_of_block bx2) (by simp)).trans bx2; replace hW := grown_trans hW hg
  clear hg
  go_region_held3 (fun w' => w'.cell? ⟨w.heap.size, 0, none⟩ = some (.bool g1) ∧ w'.cell? ⟨w.heap.size, 1, none⟩ = some (.slice p1 n1 c1) ∧ w'.cell? ⟨w.heap.size, 2, none⟩ = some (.slice q1 m1 d1) ∧ w'.cell? ⟨w.heap.size + 1, 0, none⟩ = some (.bool g2) ∧ w'.cell? ⟨w.heap.size + 1, 1, none⟩ = some (.slice p2 n2 c2) ∧ w'.cell? ⟨w.heap.size + 1, 2, none⟩ = some (.slice q2 m2 d2)) ((try go_split_ands) <;> (repeat' apply And.intro) <;> (repeat (first | (with_reducible assumption) | (with_reducible refine (grown_setCell _ _ _).cell ?_ (by first | (simp; omega) | simp)) | (with_reducible refine (World.grownBy_alloc _ _ none).cell ?_ (by simp)) | (with_reducible refine (grown_drew _ none).cell ?_ (by simp)))))
    (first
      | (go_at_call 125; (with_reducible refine (rNeg3_v S hB hn2 hm2 (by omega)).mono ?_); intro ee v1 HH; obtain ⟨g5, p5, n5, c5, q5, m5, d5, he, hX, hn5, hm5, hg⟩ := HH; subst he; replace hA := hA.keep hg; replace hB := hB.keep hg; replace x0 := hg.cell x0 (by simp); replace x1 := hg.cell x1 (by simp); replace x2 := hg.cell x2 (by simp); replace y0 := hg.cell y0 (by simp); replace y1 := hg.cell y1 (by simp); replace y2 := hg.cell y2 (by simp); replace bx2 := (hg.block _ (lt_of_block bx2) (by simp)).trans bx2; replace hW := grown_trans hW hg; clear hg)
      | (go_at_call 104; (with_reducible refine (rAdd3_v (S + 4) hA hX.q (by omega) (by omega) hn5 hm5 (by omega)).mono ?_); intro ee v2 HH; obtain ⟨g6, p6, n6, c6, q6, m6, d6, he, hZ, hn6, hm6, hg⟩ := HH; subst he; replace hA := hA.keep hg; replace hB := hB.keep hg; replace hX := hX.keep hg; replace x0 := hg.cell x0 (by simp); replace x1 := hg.cell x1 (by simp); replace x2 := hg.cell x2 (by simp); replace y0 := hg.cell y0 (by simp); replace y1 := hg.cell y1 (by simp); replace y2 := hg.cell y2 (by simp); replace bx2 := (hg.block _ (lt_of_block bx2) (by simp)).trans bx2; replace hW := grown_trans hW hg; clear hg; have ff := ratbox_facts bx2; obtain ⟨l0, l1, l2, f0, f1, f2⟩ := ff))
  go_wp2_with fail
  exact bodyPost_ret (v := .agg #[.bool g6, .slice p6 n6 c6, .slice q6 m6 d6]) (by simp [results, Tryz.results98, go_sem, l0, l1, l2, f0, f1, f2]) rfl
    (VPost.close bx2 (by omega) hW (hZ.congr (Rat.sub_eq_add_neg v u).symm) (by omega) (by omega))

set_option maxRecDepth 20000 in
set_option maxHeartbeats 4000000 in
theorem rDiv3_e (S : Nat) {w : World} {g1 g2 : Bool} {p1 q1 p2 q2 : Option Addr} {n1 c1 m1 d1 n2 c2 m2 d2 : Nat} {v u : Rat} (hA : IsQ w g1 p1 n1 c1 q1 m1 d1 v) (hB : IsQ w g2 p2 n2 c2 q2 m2 d2 u) (h0 : u = 0) (hn1 : n1 ≤ S) (hm1 : m1 ≤ S) (hn2 : n2 ≤ S) (hm2 : m2 ≤ S) (hS : S ≤ 10000) :
    Calls Tryz.prog 128 #[.agg #[.bool g1, .slice p1 n1 c1, .slice q1 m1 d1], .agg #[.bool g2, .slice p2 n2 c2, .slice q2 m2 d2]] w (EPost w 3) := by
  have HZ := hid (show u.num * (v.den : Int) = 0 by rw [h0]; simp)
  clear h0
  have hW := (grown_trans (grown_trans (World.grownBy_alloc w (.cells #[.bool g1, .slice p1 n1 c1, .slice q1 m1 d1] 27) none) (World.grownBy_alloc _ (.cells #[.bool g2, .slice p2 n2 c2, .slice q2 m2 d2] 27) none)) (World.grownBy_alloc _ (.cells #[.bool false, .slice none 0 0, .slice none 0 0] 27) none))
  have bx0 : (((w.alloc (.cells #[.bool g1, .slice p1 n1 c1, .slice q1 m1 d1] 27)).alloc (.cells #[.bool g2, .slice p2 n2 c2, .slice q2 m2 d2] 27)).alloc (.cells #[.bool false, .slice none 0 0, .slice none 0 0] 27)).heap[w.heap.size]? = some (.cells #[.bool g1, .slice p1 n1 c1, .slice q1 m1 d1] 27 (0, 0)) := by
    have h0 := heap_alloc_new w (.cells #[.bool g1, .slice p1 n1 c1, .slice q1 m1 d1] 27)
    have h1 := (grown_trans (World.grownBy_alloc (w.alloc (.cells #[.bool g1, .slice p1 n1 c1, .slice q1 m1 d1] 27)) (.cells #[.bool g2, .slice p2 n2 c2, .slice q2 m2 d2] 27) none) (World.grownBy_alloc _ (.cells #[.bool false, .slice none 0 0, .slice none 0 0] 27) none)).block _ (lt_of_block h0) (by simp)
    have h2 := h1.trans h0
    simpa using h2
  have bx1 : (((w.alloc (.cells #[.bool g1, .slice p1 n1 c1, .slice q1 m1 d1] 27)).alloc (.cells #[.bool g2, .slice p2 n2 c2, .slice q2 m2 d2] 27)).alloc (.cells #[.bool false, .slice none 0 0, .slice none 0 0] 27)).heap[w.heap.size + 1]? = some (.cells #[.bool g2, .slice p2 n2 c2, .slice q2 m2 d2] 27 (0, 0)) := by
    have h0 := heap_alloc_new (w.alloc (.cells #[.bool g1, .slice p1 n1 c1, .slice q1 m1 d1] 27)) (.cells #[.bool g2, .slice p2 n2 c2, .slice q2 m2 d2] 27)
    have h1 := (World.grownBy_alloc ((w.alloc (.cells #[.bool g1, .slice p1 n1 c1, .slice q1 m1 d1] 27)).alloc (.cells #[.bool g2, .slice p2 n2 c2, .slice q2 m2 d2] 27)) (.cells #[.bool false, .slice none 0 0, .slice none 0 0] 27) none).block _ (lt_of_block h0) (by simp)
    have h2 := h1.trans h0
    simpa using h2
  have bx2 : (((w.alloc (.cells #[.bool g1, .slice p1 n1 c1, .slice q1 m1 d1] 27)).alloc (.cells #[.bool g2, .slice p2 n2 c2, .slice q2 m2 d2] 27)).alloc (.cells #[.bool false, .slice none 0 0, .slice none 0 0] 27)).heap[w.heap.size + 1 + 1]? = some (.cells #[.bool false, .slice none 0 0, .slice none 0 0] 27 (0, 0)) := by
    have := heap_alloc_new ((w.alloc (.cells #[.bool g1, .slice p1 n1 c1, .slice q1 m1 d1] 27)).alloc (.cells #[.bool g2, .slice p2 n2 c2, .slice q2 m2 d2] 27)) (.cells #[.bool false, .slice none 0 0, .slice none 0 0] 27)
    simpa using this
  replace hA := hA.keep hW; replace hB := hB.keep hW
  go_enter Tryz.func128, Tryz.ntmps128
  go_wp2_with fail
  generalize (((w.alloc (.cells #[.bool g1, .slice p1 n1 c1, .slice q1 m1 d1] 27)).alloc (.cells #[.bool g2, .slice p2 n2 c2, .slice q2 m2 d2] 27)).alloc (.cells #[.bool false, .slice none 0 0, .slice none 0 0] 27)) = w0 at *
  have hR := grown_refl w0 none
  have hg := grown_drew w0 none
  go_cut [2] from 6 to 9 (fun s2 wx => s2 = .pointer (some ⟨w.heap.size, 0, none⟩) ∧ NRel v u w w0 (S + 4) wx)
  case first =>
    replace hA := hA.keep hg; replace hB := hB.keep hg; replace bx0 := (hg.block _ (lt_of_block bx0) (by simp)).trans bx0; replace bx1 := (hg.block _ (lt_of_block bx1) (by simp)).trans bx1; replace bx2 := (hg.block _ (lt_of_block bx2) (by simp)).trans bx2; replace hW := grown_trans hW hg; replace hR := grown_trans hR hg
    clear hg
    obtain ⟨x0, x1, x2, _, _, _⟩ := ratbox_facts bx0
    obtain ⟨y0, y1, y2, _, _, _⟩ := ratbox_facts bx1
    go_region_with (first
      | (go_at_call 108; (with_reducible refine (norm_v S hA hn1 hm1 (by omega)).mono ?_); intro ee v1 HH; obtain ⟨g3, p3, n3, c3, q3, m3, d3, he, hV, hn3, hm3, hg⟩ := HH; subst he; replace hA := hA.keep hg; replace hB := hB.keep hg; replace x0 := hg.cell x0 (by simp); replace x1 := hg.cell x1 (by simp); replace x2 := hg.cell x2 (by simp); replace y0 := hg.cell y0 (by simp); replace y1 := hg.cell y1 (by simp); replace y2 := hg.cell y2 (by simp); replace bx0 := (hg.block _ (lt_of_block bx0) (by simp)).trans bx0; replace bx1 := (hg.block _ (lt_of_block bx1) (by simp)).trans bx1; replace bx2 := (hg.block _ (lt_of_block bx2) (by simp)).trans bx2; replace hW := grown_trans hW hg; replace hR := grown_trans hR hg; clear hg)
      | (go_at_call 108; (with_reducible refine (norm_v S hB hn2 hm2 (by omega)).mono ?_); intro ee v2 HH; obtain ⟨g4, p4, n4, c4, q4, m4, d4, he, hU, hn4, hm4, hg⟩ := HH; subst he; replace hA := hA.keep hg; replace hB := hB.keep hg; replace hV := hV.keep hg; replace x0 := hg.cell x0 (by simp); replace x1 := hg.cell x1 (by simp); replace x2 := hg.cell x2 (by simp); replace y0 := hg.cell y0 (by simp); replace y1 := hg.cell y1 (by simp); replace y2 := hg.cell y2 (by simp); replace bx0 := (hg.block _ (lt_of_block bx0) (by simp)).trans bx0; replace bx1 := (hg.block _ (lt_of_block bx1) (by simp)).trans bx1; replace bx2 := (hg.block _ (lt_of_block bx2) (by simp)).trans bx2; replace hW := grown_trans hW hg; replace hR := grown_trans hR hg; clear hg; have ff := ratbox_facts bx0; obtain ⟨_, _, _, fa0, fa1, fa2⟩ := ff; have ff := ratbox_facts bx1; obtain ⟨_, _, _, fb0, fb1, fb2⟩ := ff))
    all_goals
      go_wp2_with fail
      go_meet
      refine ⟨rfl, ?_⟩
      first
        | with_reducible exact nrel_ab bx0 bx1 hV hU ⟨hn3, hm3⟩ ⟨hn4, hm4⟩ hW hR
        | with_reducible exact nrel_ba bx0 bx1 hV hU ⟨hn3, hm3⟩ ⟨hn4, hm4⟩ hW hR
  case rest =>
    obtain ⟨rfl, g3, g4, p3, q3, p4, q4, n3, c3, m3, d3, n4, c4, m4, d4, bA, bB, hV, hU, ⟨hn3, hm3⟩, ⟨hn4, hm4⟩, hW, hR⟩ := hcut
    replace bx2 := hR _ _ (by omega) bx2
    obtain ⟨x0, x1, x2, _, _, _⟩ := ratbox_facts bA
    obtain ⟨y0, y1, y2, _, _, _⟩ := ratbox_facts bB
    clear hR hg
    clear bA bB bx0 bx1 hA hB
    go_wp2_with fail
    have hg := grown_drew wc none
    replace hV := hV.keep hg; replace hU := hU.keep hg; replace x0 := hg.cell x0 (by simp); replace x1 := hg.cell x1 (by simp)
    replace x2 := hg.cell x2 (by simp); replace y0 := hg.cell y0 (by simp); replace y1 := hg.cell y1 (by simp); replace y2 := hg.cell y2 (by simp)
    replace bx2 := (hg.block _ (lt_of_block bx2) (by simp)).trans bx2; replace hW := grown_trans hW hg
    clear hg
    go_region_held3 (fun w' => w'.cell? ⟨w.heap.size, 0, none⟩ = some (.bool g3) ∧ w'.cell? ⟨w.heap.size, 1, none⟩ = some (.slice p3 n3 c3) ∧ w'.cell? ⟨w.heap.size, 2, none⟩ = some (.slice q3 m3 d3) ∧ w'.cell? ⟨w.heap.size + 1, 0, none⟩ = some (.bool g4) ∧ w'.cell? ⟨w.heap.size + 1, 1, none⟩ = some (.slice p4 n4 c4) ∧ w'.cell? ⟨w.heap.size + 1, 2, none⟩ = some (.slice q4 m4 d4)) ((try go_split_ands) <;> (repeat' apply And.intro) <;> (repeat (first | (with_reducible assumption) | (with_reducible refine (grown_setCell _ _ _).cell ?_ (by first | (simp; omega) | simp)) | (with_reducible refine (World.grownBy_alloc _ _ none).cell ?_ (by simp)) | (with_reducible refine (grown_drew _ none).cell ?_ (by simp)))))
      (first
        | (go_at_call 122; (with_reducible refine (wholeT_any _ _ _).mono ?_); rintro ee v5 ⟨rfl, hg⟩; replace hV := hV.keep hg; replace hU := hU.keep hg; replace hX := hX.keep hg; replace x0 := hg.cell x0 (by simp); replace x1 := hg.cell x1 (by simp); replace x2 := hg.cell x2 (by simp); replace y0 := hg.cell y0 (by simp); replace y1 := hg.cell y1 (by simp); replace y2 := hg.cell y2 (by simp); replace bx2 := (hg.block _ (lt_of_block bx2) (by simp)).trans bx2; replace hW := grown_trans hW hg; clear hg)
        | (go_at_call 122; (with_reducible refine (wholeT_any _ _ _).mono ?_); rintro ee v5 ⟨rfl, hg⟩; replace hV := hV.keep hg; replace hU := hU.keep hg; replace x0 := hg.cell x0 (by simp); replace x1 := hg.cell x1 (by simp); replace x2 := hg.cell x2 (by simp); replace y0 := hg.cell y0 (by simp); replace y1 := hg.cell y1 (by simp); replace y2 := hg.cell y2 (by simp); replace bx2 := (hg.block _ (lt_of_block bx2) (by simp)).trans bx2; replace hW := grown_trans hW hg; clear hg)
        | (go_at_call 121; (with_reducible refine (rMul_any hV.nm.z (IsZ.of_n hU.dn.isN) (by omega) (by omega)).mono ?_); intro ee v6 HH; obtain ⟨g6, p6, n6, c6, he, hX, hn6, hg⟩ := HH; subst he; replace hV := hV.keep hg; replace hU := hU.keep hg; replace x0 := hg.cell x0 (by simp); replace x1 := hg.cell x1 (by simp); replace x2 := hg.cell x2 (by simp); replace y0 := hg.cell y0 (by simp); replace y1 := hg.cell y1 (by simp); replace y2 := hg.cell y2 (by simp); replace bx2 := (hg.block _ (lt_of_block bx2) (by simp)).trans bx2; replace hW := grown_trans hW hg; clear hg)
        | (go_at_call 121; (with_reducible refine (rMul_any hU.nm.z (IsZ.of_n hV.dn.isN) (by omega) (by omega)).mono ?_); intro ee v7 HH; obtain ⟨g7, p7, n7, c7, he, hY, hn7, hg⟩ := HH; subst he; replace hV := hV.keep hg; replace hU := hU.keep hg; replace hX := hX.keep hg; replace x0 := hg.cell x0 (by simp); replace x1 := hg.cell x1 (by simp); replace x2 := hg.cell x2 (by simp); replace y0 := hg.cell y0 (by simp); replace y1 := hg.cell y1 (by simp); replace y2 := hg.cell y2 (by simp); replace bx2 := (hg.block _ (lt_of_block bx2) (by simp)).trans bx2; replace hW := grown_trans hW hg; clear hg)
        | (go_at_call 105; (with_reducible refine (rMake_e (2 * S + 20) hX.z hY.z HZ.out (by omega) (by omega) (by omega)).mono ?_); rintro ee v8 ⟨rfl, hg⟩; replace hV := hV.keep hg; replace hU := hU.keep hg; replace hX := hX.keep hg; replace hY := hY.keep hg; replace x0 := hg.cell x0 (by simp); replace x1 := hg.cell x1 (by simp); replace x2 := hg.cell x2 (by simp); replace y0 := hg.cell y0 (by simp); replace y1 := hg.cell y1 (by simp); replace y2 := hg.cell y2 (by simp); replace bx2 := (hg.block _ (lt_of_block bx2) (by simp)).trans bx2; replace hW := grown_trans hW hg; clear hg; have ff := ratbox_facts bx2; obtain ⟨l0, l1, l2, f0, f1, f2⟩ := ff))
    go_wp2_with fail
    exact bodyPost_ret (v := .tuple #[.agg #[.bool false, .slice none 0 0, .slice none 0 0], .int .i64 3]) (by simp [results, Tryz.results128, go_sem, l0, l1, l2, f0, f1, f2]) rfl
      (EPost.close (by omega) hW _ _ _ _)

set_option maxRecDepth 20000 in
set_option maxHeartbeats 4000000 in
theorem rDiv3_v (S : Nat) {w : World} {g1 g2 : Bool} {p1 q1 p2 q2 : Option Addr} {n1 c1 m1 d1 n2 c2 m2 d2 : Nat} {v u : Rat} (hA : IsQ w g1 p1 n1 c1 q1 m1 d1 v) (hB : IsQ w g2 p2 n2 c2 q2 m2 d2 u) (h0 : u ≠ 0) (hn1 : n1 ≤ S) (hm1 : m1 ≤ S) (hn2 : n2 ≤ S) (hm2 : m2 ≤ S) (hS : S ≤ 10000) :
    Calls Tryz.prog 128 #[.agg #[.bool g1, .slice p1 n1 c1, .slice q1 m1 d1], .agg #[.bool g2, .slice p2 n2 c2, .slice q2 m2 d2]] w (MPost w (v / u) (8 * S + 100)) := by
  have hN : u.num ≠ 0 := fun h => h0 (Rat.num_eq_zero.1 h)
  have HZ := hid (show u.num * (v.den : Int) ≠ 0 from Int.mul_ne_zero hN (by have := v.den_pos; omega))
  have HV := hid (show ((v.num * (u.den : Int) : Int) : Rat) / ((u.num * (v.den : Int) : Int) : Rat) = v / u by rw [mk_div v.den_pos u.den_pos hN, Rat.mkRat_self, Rat.mkRat_self])
  clear h0 hN
  have hW := (grown_trans (grown_trans (World.grownBy_alloc w (.cells #[.bool g1, .slice p1 n1 c1, .slice q1 m1 d1] 27) none) (World.grownBy_alloc _ (.cells #[.bool g2, .slice p2 n2 c2, .slice q2 m2 d2] 27) none)) (World.grownBy_alloc _ (.cells #[.bool false, .slice none 0 0, .slice none 0 0] 27) none))
  have bx0 : (((w.alloc (.cells #[.bool g1, .slice p1 n1 c1, .slice q1 m1 d1] 27)).alloc (.cells #[.bool g2, .slice p2 n2 c2, .slice q2 m2 d2] 27)).alloc (.cells #[.bool false, .slice none 0 0, .slice none 0 0] 27)).heap[w.heap.size]? = some (.cells #[.bool g1, .slice p1 n1 c1, .slice q1 m1 d1] 27 (0, 0)) := by
    have h0 := heap_alloc_new w (.cells #[.bool g1, .slice p1 n1 c1, .slice q1 m1 d1] 27)
    have h1 := (grown_trans (World.grownBy_alloc (w.alloc (.cells #[.bool g1, .slice p1 n1 c1, .slice q1 m1 d1] 27)) (.cells #[.bool g2, .slice p2 n2 c2, .slice q2 m2 d2] 27) none) (World.grownBy_alloc _ (.cells #[.bool false, .slice none 0 0, .slice none 0 0] 27) none)).block _ (lt_of_block h0) (by simp)
    have h2 := h1.trans h0
    simpa using h2
  have bx1 : (((w.alloc (.cells #[.bool g1, .slice p1 n1 c1, .slice q1 m1 d1] 27)).alloc (.cells #[.bool g2, .slice p2 n2 c2, .slice q2 m2 d2] 27)).alloc (.cells #[.bool false, .slice none 0 0, .slice none 0 0] 27)).heap[w.heap.size + 1]? = some (.cells #[.bool g2, .slice p2 n2 c2, .slice q2 m2 d2] 27 (0, 0)) := by
    have h0 := heap_alloc_new (w.alloc (.cells #[.bool g1, .slice p1 n1 c1, .slice q1 m1 d1] 27)) (.cells #[.bool g2, .slice p2 n2 c2, .slice q2 m2 d2] 27)
    have h1 := (World.grownBy_alloc ((w.alloc (.cells #[.bool g1, .slice p1 n1 c1, .slice q1 m1 d1] 27)).alloc (.cells #[.bool g2, .slice p2 n2 c2, .slice q2 m2 d2] 27)) (.cells #[.bool false, .slice none 0 0, .slice none 0 0] 27) none).block _ (lt_of_block h0) (by simp)
    have h2 := h1.trans h0
    simpa using h2
  have bx2 : (((w.alloc (.cells #[.bool g1, .slice p1 n1 c1, .slice q1 m1 d1] 27)).alloc (.cells #[.bool g2, .slice p2 n2 c2, .slice q2 m2 d2] 27)).alloc (.cells #[.bool false, .slice none 0 0, .slice none 0 0] 27)).heap[w.heap.size + 1 + 1]? = some (.cells #[.bool false, .slice none 0 0, .slice none 0 0] 27 (0, 0)) := by
    have := heap_alloc_new ((w.alloc (.cells #[.bool g1, .slice p1 n1 c1, .slice q1 m1 d1] 27)).alloc (.cells #[.bool g2, .slice p2 n2 c2, .slice q2 m2 d2] 27)) (.cells #[.bool false, .slice none 0 0, .slice none 0 0] 27)
    simpa using this
  replace hA := hA.keep hW; replace hB := hB.keep hW
  go_enter Tryz.func128, Tryz.ntmps128
  go_wp2_with fail
  generalize (((w.alloc (.cells #[.bool g1, .slice p1 n1 c1, .slice q1 m1 d1] 27)).alloc (.cells #[.bool g2, .slice p2 n2 c2, .slice q2 m2 d2] 27)).alloc (.cells #[.bool false, .slice none 0 0, .slice none 0 0] 27)) = w0 at *
  have hR := grown_refl w0 none
  have hg := grown_drew w0 none
  go_cut [2] from 6 to 9 (fun s2 wx => s2 = .pointer (some ⟨w.heap.size, 0, none⟩) ∧ NRel v u w w0 (S + 4) wx)
  case first =>
    replace hA := hA.keep hg; replace hB := hB.keep hg; replace bx0 := (hg.block _ (lt_of_block bx0) (by simp)).trans bx0; replace bx1 := (hg.block _ (lt_of_block bx1) (by simp)).trans bx1; replace bx2 := (hg.block _ (lt_of_block bx2) (by simp)).trans bx2; replace hW := grown_trans hW hg; replace hR := grown_trans hR hg
    clear hg
    obtain ⟨x0, x1, x2, _, _, _⟩ := ratbox_facts bx0
    obtain ⟨y0, y1, y2, _, _, _⟩ := ratbox_facts bx1
    go_region_with (first
      | (go_at_call 108; (with_reducible refine (norm_v S hA hn1 hm1 (by omega)).mono ?_); intro ee v1 HH; obtain ⟨g3, p3, n3, c3, q3, m3, d3, he, hV, hn3, hm3, hg⟩ := HH; subst he; replace hA := hA.keep hg; replace hB := hB.keep hg; replace x0 := hg.cell x0 (by simp); replace x1 := hg.cell x1 (by simp); replace x2 := hg.cell x2 (by simp); replace y0 := hg.cell y0 (by simp); replace y1 := hg.cell y1 (by simp); replace y2 := hg.cell y2 (by simp); replace bx0 := (hg.block _ (lt_of_block bx0) (by simp)).trans bx0; replace bx1 := (hg.block _ (lt_of_block bx1) (by simp)).trans bx1; replace bx2 := (hg.block _ (lt_of_block bx2) (by simp)).trans bx2; replace hW := grown_trans hW hg; replace hR := grown_trans hR hg; clear hg)
      | (go_at_call 108; (with_reducible refine (norm_v S hB hn2 hm2 (by omega)).mono ?_); intro ee v2 HH; obtain ⟨g4, p4, n4, c4, q4, m4, d4, he, hU, hn4, hm4, hg⟩ := HH; subst he; replace hA := hA.keep hg; replace hB := hB.keep hg; replace hV := hV.keep hg; replace x0 := hg.cell x0 (by simp); replace x1 := hg.cell x1 (by simp); replace x2 := hg.cell x2 (by simp); replace y0 := hg.cell y0 (by simp); replace y1 := hg.cell y1 (by simp); replace y2 := hg.cell y2 (by simp); replace bx0 := (hg.block _ (lt_of_block bx0) (by simp)).trans bx0; replace bx1 := (hg.block _ (lt_of_block bx1) (by simp)).trans bx1; replace bx2 := (hg.block _ (lt_of_block bx2) (by simp)).trans bx2; replace hW := grown_trans hW hg; replace hR := grown_trans hR hg; clear hg; have ff := ratbox_facts bx0; obtain ⟨_, _, _, fa0, fa1, fa2⟩ := ff; have ff := ratbox_facts bx1; obtain ⟨_, _, _, fb0, fb1, fb2⟩ := ff))
    all_goals
      go_wp2_with fail
      go_meet
      refine ⟨rfl, ?_⟩
      first
        | with_reducible exact nrel_ab bx0 bx1 hV hU ⟨hn3, hm3⟩ ⟨hn4, hm4⟩ hW hR
        | with_reducible exact nrel_ba bx0 bx1 hV hU ⟨hn3, hm3⟩ ⟨hn4, hm4⟩ hW hR
  case rest =>
    obtain ⟨rfl, g3, g4, p3, q3, p4, q4, n3, c3, m3, d3, n4, c4, m4, d4, bA, bB, hV, hU, ⟨hn3, hm3⟩, ⟨hn4, hm4⟩, hW, hR⟩ := hcut
    replace bx2 := hR _ _ (by omega) bx2
    obtain ⟨x0, x1, x2, _, _, _⟩ := ratbox_facts bA
    obtain ⟨y0, y1, y2, _, _, _⟩ := ratbox_facts bB
    clear hR hg
    clear bA bB bx0 bx1 hA hB
    go_wp2_with fail
    have hg := grown_drew wc none
    replace hV := hV.keep hg; replace hU := hU.keep hg; replace x0 := hg.cell x0 (by simp); replace x1 := hg.cell x1 (by simp)
    replace x2 := hg.cell x2 (by simp); replace y0 := hg.cell y0 (by simp); replace y1 := hg.cell y1 (by simp); replace y2 := hg.cell y2 (by simp)
    replace bx2 := (hg.block _ (lt_of_block bx2) (by simp)).trans bx2; replace hW := grown_trans hW hg
    clear hg
    go_region_held3 (fun w' => w'.cell? ⟨w.heap.size, 0, none⟩ = some (.bool g3) ∧ w'.cell? ⟨w.heap.size, 1, none⟩ = some (.slice p3 n3 c3) ∧ w'.cell? ⟨w.heap.size, 2, none⟩ = some (.slice q3 m3 d3) ∧ w'.cell? ⟨w.heap.size + 1, 0, none⟩ = some (.bool g4) ∧ w'.cell? ⟨w.heap.size + 1, 1, none⟩ = some (.slice p4 n4 c4) ∧ w'.cell? ⟨w.heap.size + 1, 2, none⟩ = some (.slice q4 m4 d4)) ((try go_split_ands) <;> (repeat' apply And.intro) <;> (repeat (first | (with_reducible assumption) | (with_reducible refine (grown_setCell _ _ _).cell ?_ (by first | (simp; omega) | simp)) | (with_reducible refine (World.grownBy_alloc _ _ none).cell ?_ (by simp)) | (with_reducible refine (grown_drew _ none).cell ?_ (by simp)))))
      (first
        | (go_at_call 122; (with_reducible refine (wholeT_any _ _ _).mono ?_); rintro ee v5 ⟨rfl, hg⟩; replace hV := hV.keep hg; replace hU := hU.keep hg; replace hX := hX.keep hg; replace x0 := hg.cell x0 (by simp); replace x1 := hg.cell x1 (by simp); replace x2 := hg.cell x2 (by simp); replace y0 := hg.cell y0 (by simp); replace y1 := hg.cell y1 (by simp); replace y2 := hg.cell y2 (by simp); replace bx2 := (hg.block _ (lt_of_block bx2) (by simp)).trans bx2; replace hW := grown_trans hW hg; clear hg)
        | (go_at_call 122; (with_reducible refine (wholeT_any _ _ _).mono ?_); rintro ee v5 ⟨rfl, hg⟩; replace hV := hV.keep hg; replace hU := hU.keep hg; replace x0 := hg.cell x0 (by simp); replace x1 := hg.cell x1 (by simp); replace x2 := hg.cell x2 (by simp); replace y0 := hg.cell y0 (by simp); replace y1 := hg.cell y1 (by simp); replace y2 := hg.cell y2 (by simp); replace bx2 := (hg.block _ (lt_of_block bx2) (by simp)).trans bx2; replace hW := grown_trans hW hg; clear hg)
        | (go_at_call 121; (with_reducible refine (rMul_any hV.nm.z (IsZ.of_n hU.dn.isN) (by omega) (by omega)).mono ?_); intro ee v6 HH; obtain ⟨g6, p6, n6, c6, he, hX, hn6, hg⟩ := HH; subst he; replace hV := hV.keep hg; replace hU := hU.keep hg; replace x0 := hg.cell x0 (by simp); replace x1 := hg.cell x1 (by simp); replace x2 := hg.cell x2 (by simp); replace y0 := hg.cell y0 (by simp); replace y1 := hg.cell y1 (by simp); replace y2 := hg.cell y2 (by simp); replace bx2 := (hg.block _ (lt_of_block bx2) (by simp)).trans bx2; replace hW := grown_trans hW hg; clear hg)
        | (go_at_call 121; (with_reducible refine (rMul_any hU.nm.z (IsZ.of_n hV.dn.isN) (by omega) (by omega)).mono ?_); intro ee v7 HH; obtain ⟨g7, p7, n7, c7, he, hY, hn7, hg⟩ := HH; subst he; replace hV := hV.keep hg; replace hU := hU.keep hg; replace hX := hX.keep hg; replace x0 := hg.cell x0 (by simp); replace x1 := hg.cell x1 (by simp); replace x2 := hg.cell x2 (by simp); replace y0 := hg.cell y0 (by simp); replace y1 := hg.cell y1 (by simp); replace y2 := hg.cell y2 (by simp); replace bx2 := (hg.block _ (lt_of_block bx2) (by simp)).trans bx2; replace hW := grown_trans hW hg; clear hg)
        | (go_at_call 105; (with_reducible refine (rMake_v (2 * S + 20) hX.z hY.z HZ.out HV.out (by omega) (by omega) (by omega)).mono ?_); intro ee v8 HH; obtain ⟨g10, p10, n10, c10, q10, m10, d10, he, hZ, hn10, hm10, hg⟩ := HH; subst he; replace hV := hV.keep hg; replace hU := hU.keep hg; replace hX := hX.keep hg; replace hY := hY.keep hg; replace x0 := hg.cell x0 (by simp); replace x1 := hg.cell x1 (by simp); replace x2 := hg.cell x2 (by simp); replace y0 := hg.cell y0 (by simp); replace y1 := hg.cell y1 (by simp); replace y2 := hg.cell y2 (by simp); replace bx2 := (hg.block _ (lt_of_block bx2) (by simp)).trans bx2; replace hW := grown_trans hW hg; clear hg; have ff := ratbox_facts bx2; obtain ⟨l0, l1, l2, f0, f1, f2⟩ := ff))
    go_wp2_with fail
    exact bodyPost_ret (v := .tuple #[.agg #[.bool g10, .slice p10 n10 c10, .slice q10 m10 d10], .int .i64 0]) (by simp [results, Tryz.results128, go_sem, l0, l1, l2, f0, f1, f2]) rfl
      (MPost.close bx2 (by omega) hW hZ (by omega) (by omega))
end Go.Proofs.YtgbfjneoieadmaaGreatDoor

set_option linter.unusedVariables false
set_option linter.unusedSimpArgs false
namespace Go.Proofs.YtgbfjneoieadmaaGreatDoor
open Go.RowKit Nm

set_option maxRecDepth 20000 in
set_option maxHeartbeats 4000000 in
theorem ratNeg_v (S : Nat) {w : World} (T : Tb w) {g1 : Bool} {p1 q1 : Option Addr} {n1 c1 m1 d1 : Nat} {v : Rat} (hA : IsQ w g1 p1 n1 c1 q1 m1 d1 v) (hn1 : n1 ≤ S) (hm1 : m1 ≤ S) (hS : S ≤ 40000) :
    Calls Tryz.prog 124 #[.agg #[.bool g1, .slice p1 n1 c1, .slice q1 m1 d1]] w (VPost w (-v) (4 * S + 20)) := by
  have HT := hid T
  clear T
  have hW := (grown_trans (World.grownBy_alloc w (.cells #[.bool g1, .slice p1 n1 c1, .slice q1 m1 d1] 27) none) (World.grownBy_alloc _ (.cells #[.bool false, .slice none 0 0, .slice none 0 0] 27) none))
  have bx0 : ((w.alloc (.cells #[.bool g1, .slice p1 n1 c1, .slice q1 m1 d1] 27)).alloc (.cells #[.bool false, .slice none 0 0, .slice none 0 0] 27)).heap[w.heap.size]? = some (.cells #[.bool g1, .slice p1 n1 c1, .slice q1 m1 d1] 27 (0, 0)) := by
    have h0 := heap_alloc_new w (.cells #[.bool g1, .slice p1 n1 c1, .slice q1 m1 d1] 27)
    have h1 := (World.grownBy_alloc (w.alloc (.cells #[.bool g1, .slice p1 n1 c1, .slice q1 m1 d1] 27)) (.cells #[.bool false, .slice none 0 0, .slice none 0 0] 27) none).block _ (lt_of_block h0) (by simp)
    have h2 := h1.trans h0
    simpa using h2
  obtain ⟨x0, x1, x2, _, _, _⟩ := ratbox_facts bx0
  clear bx0
  have bx1 : ((w.alloc (.cells #[.bool g1, .slice p1 n1 c1, .slice q1 m1 d1] 27)).alloc (.cells #[.bool false, .slice none 0 0, .slice none 0 0] 27)).heap[w.heap.size + 1]? = some (.cells #[.bool false, .slice none 0 0, .slice none 0 0] 27 (0, 0)) := by
    have := heap_alloc_new (w.alloc (.cells #[.bool g1, .slice p1 n1 c1, .slice q1 m1 d1] 27)) (.cells #[.bool false, .slice none 0 0, .slice none 0 0] 27)
    simpa using this
  replace hA := hA.keep hW
  go_enter Tryz.func124, Tryz.ntmps124
  go_wp2_with fail
  generalize ((w.alloc (.cells #[.bool g1, .slice p1 n1 c1, .slice q1 m1 d1] 27)).alloc (.cells #[.bool false, .slice none 0 0, .slice none 0 0] 27)) = w0 at *
  refine (opposite_any _ _ _ _ _ _ _).mono ?_
  rintro ee v1 ⟨rfl, hg⟩
  replace hA := hA.keep hg; replace x0 := hg.cell x0 (by simp); replace x1 := hg.cell x1 (by simp); replace x2 := hg.cell x2 (by simp)
  replace bx1 := (hg.block _ (lt_of_block bx1) (by simp)).trans bx1; replace hW := grown_trans hW hg
  clear hg
  obtain ⟨N, D, hX, hE, HV⟩ := hA.opp
  replace HV := hid HV
  clear hA
  go_wp2_with fail
  refine (parts_any hX hE (by omega) (by omega)).mono ?_
  rintro ee v2 ⟨g3, p3, n3, c3, q3, m3, d3, rfl, hN, hD, hn3, hm3, hg⟩
  replace hX := hX.keep hg; replace hE := hE.keep hg; replace x0 := hg.cell x0 (by simp); replace x1 := hg.cell x1 (by simp)
  replace x2 := hg.cell x2 (by simp); replace bx1 := (hg.block _ (lt_of_block bx1) (by simp)).trans bx1; replace hW := grown_trans hW hg
  clear hg
  go_wp2_with fail
  refine (lowest_v (B := S + 5) (HT.out.keep hW) hN hD (pd_pos D) (by omega) (by omega) (by omega)).mono ?_
  rintro ee v3 ⟨g6, p6, n6, c6, q6, m6, d6, rfl, hZ, hn6, hm6, hg⟩
  replace hX := hX.keep hg; replace hE := hE.keep hg; replace hN := hN.keep hg; replace hD := hD.keep hg
  replace x0 := hg.cell x0 (by simp); replace x1 := hg.cell x1 (by simp); replace x2 := hg.cell x2 (by simp); replace bx1 := (hg.block _ (lt_of_block bx1) (by simp)).trans bx1
  replace hW := grown_trans hW hg
  clear hg
  obtain ⟨l0, l1, l2, f0, f1, f2⟩ := ratbox_facts bx1
  go_wp2_with fail
  exact bodyPost_ret (v := .agg #[.bool g6, .slice p6 n6 c6, .slice q6 m6 d6]) (by simp [results, Tryz.results124, go_sem, l0, l1, l2, f0, f1, f2]) rfl
    (VPost.close bx1 (by omega) hW (hZ.congr ((pq N D).trans HV.out.symm)) (by omega) (by omega))

set_option maxHeartbeats 1000000 in
theorem same_ne (a b : Option Addr) (n c d : Nat) (xs ys : List Nat) (w : World) (h : IRd w .u16 a n c xs) (k : IRd w .u16 b n d ys) (hne : xs ≠ ys) :
    Calls Tryz.prog 75 #[.slice a n c, .slice b n d] w fun e w' => e = .returned (.bool false) ∧ w.grownBy w' none := by
  have hmax := h.max
  have hcap := h.cap
  have HL := hid h.len
  have HK := hid k.len
  have HN := hid hne
  clear hne
  go_enter Tryz.func75, Tryz.ntmps75
  go_wp2_with fail
  go_loopw [5] (fun i wr => ∃ j : Nat, j ≤ n ∧ i = .int .i64 j ∧ w.grownBy wr none ∧ Hid (∀ l, l < j → xs[l]? = ys[l]?)) (fun i _ => n - (intOf i).toNat)
  case atStart => exact ⟨0, Nat.zero_le _, rfl, grown_refl _ _, hid fun l h => by omega⟩
  case round =>
    obtain ⟨i, hi, rfl, hgr, HE⟩ := hrel
    by_cases hlt : i < n
    · have hiu : i < xs.length := by rw [HL.out]; exact hlt
      have hiv : i < ys.length := by rw [HK.out]; exact hlt
      obtain ⟨b1, o1, rfl, hc1⟩ := h.cel i hiu
      obtain ⟨b2, o2, rfl, hc2⟩ := k.cel i hiv
      have hd1 := hgr.cell hc1 (by simp)
      have hd2 := hgr.cell hc2 (by simp)
      have e1 := hid (show xs[i]? = some xs[i] by simp [hiu])
      have e2 := hid (show ys[i]? = some ys[i] by simp [hiv])
      generalize xs[i] = x at *
      generalize ys[i] = y at *
      clear hc1 hc2
      have hi0 : (0 : Int) ≤ (i : Int) := by omega
      have hil : (i : Int) < (n : Int) := by omega
      by_cases hxy : x = y
      · subst hxy
        go_wp2
        go_quiet (fail)
        go_wp2
        refine ⟨⟨i + 1, by omega, rfl, gdN hgr _, hid fun l hl => ?_⟩, by simp [intOf]; omega⟩
        by_cases e : l = i
        · subst e; rw [e1.out, e2.out]
        · exact HE.out l (by omega)
      · have hb : (((x : Int) != (y : Int)) = true) := by simp; omega
        go_wp2
        go_quiet (fail)
        go_wp2
        go_ret
        exact ⟨rfl, gdN hgr _⟩
    · obtain rfl : i = n := by omega
      exact absurd (List.ext_getElem? fun l => by
        by_cases hl : l < i
        · exact HE.out l hl
        · rw [List.getElem?_eq_none (by have := HL.out; omega), List.getElem?_eq_none (by have := HK.out; omega)]) HN.out

theorem same_d {w : World} {p q : Option Addr} {n c m d N M : Nat} (hA : IsC w p n c N) (hB : IsC w q m d M) :
    Calls Tryz.prog 75 #[.slice p n c, .slice q m d] w fun e w' => e = .returned (.bool (decide (N = M))) ∧ w.grownBy w' none := by
  by_cases e : N = M
  · rw [decide_eq_true e]; exact same_c hA hB e
  rw [decide_eq_false e]
  by_cases hl : n = m
  · subst hl
    refine same_ne p q n c d _ _ w hA hB (fun h => e ?_)
    rw [← V_dg (B := 65536) (by omega) N, h, V_dg (by omega)]
  · have hmax := IRd.max hA
    have hmax2 := IRd.max hB
    have t0 : (((n : Int) != (m : Int)) = true) := by simp; omega
    go_enter Tryz.func75, Tryz.ntmps75
    go_wp2
    go_ret
    exact ⟨rfl, grown_refl _ _⟩

set_option maxHeartbeats 2000000 in
theorem valid_both {w : World} {p : Option Addr} {n c : Nat} {xs : List Nat} (hA : IRd w .u16 p n c xs) (hx : Dg 65536 xs) :
    ∃ v : Bool, (∀ W, w.grownBy W none → Calls Tryz.prog 200 #[.agg #[.bool false, .slice p n c]] W fun e w' => e = .returned (.bool v) ∧ W.grownBy w' none) ∧
      (∀ W, w.grownBy W none → Calls Tryz.prog 74 #[.slice p n c] W fun e w' => e = .returned (.bool v) ∧ W.grownBy w' none) ∧ (v = true → 0 < n → 0 < V 65536 xs) := by
  have hmax := hA.max
  have hcap := hA.cap
  by_cases h0 : n = 0
  · subst h0
    refine ⟨true, fun W hW => ?_, fun W hW => ?_, fun _ h => by omega⟩
    · have hgb := World.grownBy_alloc W (.cells #[.bool false, .slice p 0 c] 25) none
      clear hW
      go_enter Tryz.func200, Tryz.ntmps200
      go_wp2
      go_ret
      exact ⟨rfl, hgb⟩
    · have hgb := grown_refl W none
      clear hW
      go_enter Tryz.func74, Tryz.ntmps74
      go_wp2
      go_ret
      exact ⟨rfl, hgb⟩
  · obtain ⟨top, rfl⟩ : ∃ top, n = top + 1 := ⟨n - 1, by omega⟩
    have hlen := hA.len
    have htl : top < xs.length := by omega
    have hpos : xs[top] ≠ 0 → 0 < V 65536 xs := fun h => by
      rcases Nat.eq_zero_or_pos (V 65536 xs) with h2 | h2
      · have h3 := dig_get xs hx top htl
        rw [h2] at h3
        simp at h3
        exact absurd h3 h
      · exact h2
    obtain ⟨b, o, rfl, hc⟩ := IRd.cel hA top htl
    have hb := World.block_lt_of_cell? _ _ hc
    obtain ⟨t, ht⟩ : ∃ t, t = xs[top] := ⟨_, rfl⟩
    rw [← ht] at hc hpos
    clear ht h0 hlen hA
    by_cases h0 : t = 0
    · subst h0
      refine ⟨false, fun W hW => ?_, fun W hW => ?_, fun h => by cases h⟩
      · have hgb := World.grownBy_alloc W (.cells #[.bool false, .slice (some ⟨b, o, none⟩) (top + 1) c] 25) none
        have hc2 := hgb.cell (hW.cell hc (by simp)) (by simp)
        clear hW hc hb
        go_enter Tryz.func200, Tryz.ntmps200
        go_wp2
        go_ret
        exact ⟨rfl, hgb⟩
      · have hgb := grown_refl W none
        have hc2 := hW.cell hc (by simp)
        clear hW hc hb
        go_enter Tryz.func74, Tryz.ntmps74
        go_wp2
        go_ret
        exact ⟨rfl, hgb⟩
    · have hne : (((t : Int) != 0) = true) := by simp; omega
      refine ⟨true, fun W hW => ?_, fun W hW => ?_, fun _ _ => hpos h0⟩
      · have hgb := World.grownBy_alloc W (.cells #[.bool false, .slice (some ⟨b, o, none⟩) (top + 1) c] 25) none
        have hc2 := hgb.cell (hW.cell hc (by simp)) (by simp)
        clear hpos h0 hW hc hb
        go_enter Tryz.func200, Tryz.ntmps200
        go_wp2
        go_ret
        exact ⟨rfl, hgb⟩
      · have hgb := grown_refl W none
        have hc2 := hW.cell hc (by simp)
        clear hpos h0 hW hc hb
        go_enter Tryz.func74, Tryz.ntmps74
        go_wp2
        go_ret
        exact ⟨rfl, hgb⟩
end Go.Proofs.YtgbfjneoieadmaaGreatDoor

set_option linter.unusedVariables false
set_option linter.unusedSimpArgs false
namespace Go.Proofs.YtgbfjneoieadmaaGreatDoor
open Go.ChangeShapes Go.WideShapes Go.ChangeAt Go.RowKit Nm
open Go

theorem two_facts {w : World} {G : Nat} {x y : Int} {T : TypeId} (hb : w.heap[G]? = some (.cells #[.int .i64 x, .int .i64 y] T (0, 0))) :
    w.cell? ⟨G, 0, none⟩ = some (.int .i64 x) ∧ w.cell? ⟨G, 1, none⟩ = some (.int .i64 y) := by
  have k0 := cell_of_row w G 0 _ _ _ hb
  have k1 := cell_of_row w G 1 _ _ _ hb
  simp at k0 k1
  exact ⟨k0, k1⟩




set_option maxRecDepth 20000 in
set_option maxHeartbeats 4000000 in
theorem rOf3_v {w : World} (x : Int) (h1 : -9223372036854775808 ≤ x) (h2 : x ≤ 9223372036854775807) :
    Calls Tryz.prog 86 #[.int .i64 x] w (VPost w (x : Rat) 20) := by
  have HV := hid (show mkRat x 1 = (x : Rat) by
    rw [Rat.mkRat_eq_div]
    have : ((1 : Nat) : Rat) = 1 := rfl
    rw [this]; grind)
  have hW := (World.grownBy_alloc w (.cells #[.bool false, .slice none 0 0, .slice none 0 0] 27) none)
  have bx0 : (w.alloc (.cells #[.bool false, .slice none 0 0, .slice none 0 0] 27)).heap[w.heap.size]? = some (.cells #[.bool false, .slice none 0 0, .slice none 0 0] 27 (0, 0)) := by
    have := heap_alloc_new w (.cells #[.bool false, .slice none 0 0, .slice none 0 0] 27)
    simpa using this
  skip
  go_enter Tryz.func86, Tryz.ntmps86
  go_wp2_with fail
  generalize (w.alloc (.cells #[.bool false, .slice none 0 0, .slice none 0 0] 27)) = w0 at *
  refine (rOfI x _ h1 h2).mono ?_
  rintro ee v1 ⟨g1, p1, n1, c1, rfl, hX, hn1, hg⟩
  replace bx0 := (hg.block _ (lt_of_block bx0) (by simp)).trans bx0; replace hW := grown_trans hW hg
  clear hg
  go_wp2_with fail
  refine (refOf_c 1 (by unfold W64; omega) _).mono ?_
  rintro ee v2 ⟨q2, m2, d2, rfl, hY, hm2, hg⟩
  replace hX := hX.keep hg; replace bx0 := (hg.block _ (lt_of_block bx0) (by simp)).trans bx0; replace hW := grown_trans hW hg
  clear hg
  go_wp2_with fail
  refine (over_v 20 hX.z hY.isN HV.out (by omega) (by omega) (by omega)).mono ?_
  rintro ee v3 ⟨g6, p6, n6, c6, q6, m6, d6, rfl, hZ, hn6, hm6, hg⟩
  replace hX := hX.keep hg; replace hY := hY.keep hg; replace bx0 := (hg.block _ (lt_of_block bx0) (by simp)).trans bx0; replace hW := grown_trans hW hg
  clear hg
  obtain ⟨l0, l1, l2, f0, f1, f2⟩ := ratbox_facts bx0
  go_wp2_with fail
  exact bodyPost_ret (v := .agg #[.bool g6, .slice p6 n6 c6, .slice q6 m6 d6]) (by simp [results, Tryz.results86, go_sem, l0, l1, l2, f0, f1, f2]) rfl
    (VPost.close bx0 (by omega) hW hZ (by omega) (by omega))

set_option maxRecDepth 20000 in
set_option maxHeartbeats 4000000 in
theorem rFrac3_z {w : World} (x : Int) (h1 : -9223372036854775808 ≤ x) (h2 : x ≤ 9223372036854775807) :
    Calls Tryz.prog 53 #[.int .i64 x, .int .i64 0] w (VPost w ((x : Rat) / ((0 : Int) : Rat)) 60) := by
  have HV := hid (show ((0 : Int) : Rat) = (x : Rat) / ((0 : Int) : Rat) by
    have : ((0 : Int) : Rat) = 0 := rfl
    rw [this]; grind)
  have hW := (World.grownBy_alloc w (.cells #[.bool false, .slice none 0 0, .slice none 0 0] 27) none)
  have bx0 : (w.alloc (.cells #[.bool false, .slice none 0 0, .slice none 0 0] 27)).heap[w.heap.size]? = some (.cells #[.bool false, .slice none 0 0, .slice none 0 0] 27 (0, 0)) := by
    have := heap_alloc_new w (.cells #[.bool false, .slice none 0 0, .slice none 0 0] 27)
    simpa using this
  skip
  go_enter Tryz.func53, Tryz.ntmps53
  go_wp2_with fail
  generalize (w.alloc (.cells #[.bool false, .slice none 0 0, .slice none 0 0] 27)) = w0 at *
  refine (rOfI x _ h1 h2).mono ?_
  rintro ee v1 ⟨g1, p1, n1, c1, rfl, hX, hn1, hg⟩
  replace bx0 := (hg.block _ (lt_of_block bx0) (by simp)).trans bx0; replace hW := grown_trans hW hg
  clear hg
  go_wp2_with fail
  refine (rOfI 0 _ (by omega) (by omega)).mono ?_
  rintro ee v2 ⟨g2, p2, n2, c2, rfl, hY, hn2, hg⟩
  replace hX := hX.keep hg; replace bx0 := (hg.block _ (lt_of_block bx0) (by simp)).trans bx0; replace hW := grown_trans hW hg
  clear hg
  go_wp2_with fail
  refine (rMake_e 9 hX.z hY.z rfl (by omega) (by omega) (by omega)).mono ?_
  rintro ee v3 ⟨rfl, hg⟩
  replace hX := hX.keep hg; replace hY := hY.keep hg; replace bx0 := (hg.block _ (lt_of_block bx0) (by simp)).trans bx0; replace hW := grown_trans hW hg
  clear hg
  have hg := World.grownBy_alloc v3 (.cells #[.bool false, .slice none 0 0, .slice none 0 0] 27) none
  have hb := heap_alloc_new v3 (.cells #[.bool false, .slice none 0 0, .slice none 0 0] 27)
  replace hX := hX.keep hg; replace hY := hY.keep hg; replace bx0 := (hg.block _ (lt_of_block bx0) (by simp)).trans bx0; replace hW := grown_trans hW hg
  obtain ⟨y0, y1, y2, _, _, _⟩ := ratbox_facts hb
  clear hg hb
  go_wp2_with fail
  generalize v3.alloc (.cells #[.bool false, .slice none 0 0, .slice none 0 0] 27) = u3 at *
  generalize v3.heap.size = K3 at *
  refine (rOf3_v 0 (by omega) (by omega)).mono ?_
  rintro ee v4 ⟨g6, p6, n6, c6, q6, m6, d6, rfl, hZ, hn6, hm6, hg⟩
  replace hX := hX.keep hg; replace hY := hY.keep hg; replace y0 := hg.cell y0 (by simp); replace y1 := hg.cell y1 (by simp)
  replace y2 := hg.cell y2 (by simp); replace bx0 := (hg.block _ (lt_of_block bx0) (by simp)).trans bx0; replace hW := grown_trans hW hg
  clear hg
  obtain ⟨l0, l1, l2, f0, f1, f2⟩ := ratbox_facts bx0
  go_wp2_with fail
  exact bodyPost_ret (v := .agg #[.bool g6, .slice p6 n6 c6, .slice q6 m6 d6]) (by simp [results, Tryz.results53, go_sem, l0, l1, l2, f0, f1, f2]) rfl
    (VPost.close bx0 (by omega) hW (hZ.congr HV.out) (by omega) (by omega))

set_option maxRecDepth 20000 in
set_option maxHeartbeats 4000000 in
theorem rFrac3_n {w : World} (x y : Int) (h0 : y ≠ 0) (h1 : -9223372036854775808 ≤ x) (h2 : x ≤ 9223372036854775807) (h3 : -9223372036854775808 ≤ y) (h4 : y ≤ 9223372036854775807) :
    Calls Tryz.prog 53 #[.int .i64 x, .int .i64 y] w (VPost w ((x : Rat) / (y : Rat)) 60) := by
  have H0 := hid h0
  clear h0
  have hW := (World.grownBy_alloc w (.cells #[.bool false, .slice none 0 0, .slice none 0 0] 27) none)
  have bx0 : (w.alloc (.cells #[.bool false, .slice none 0 0, .slice none 0 0] 27)).heap[w.heap.size]? = some (.cells #[.bool false, .slice none 0 0, .slice none 0 0] 27 (0, 0)) := by
    have := heap_alloc_new w (.cells #[.bool false, .slice none 0 0, .slice none 0 0] 27)
    simpa using this
  skip
  go_enter Tryz.func53, Tryz.ntmps53
  go_wp2_with fail
  generalize (w.alloc (.cells #[.bool false, .slice none 0 0, .slice none 0 0] 27)) = w0 at *
  refine (rOfI x _ h1 h2).mono ?_
  rintro ee v1 ⟨g1, p1, n1, c1, rfl, hX, hn1, hg⟩
  replace bx0 := (hg.block _ (lt_of_block bx0) (by simp)).trans bx0; replace hW := grown_trans hW hg
  clear hg
  go_wp2_with fail
  refine (rOfI y _ h3 h4).mono ?_
  rintro ee v2 ⟨g2, p2, n2, c2, rfl, hY, hn2, hg⟩
  replace hX := hX.keep hg; replace bx0 := (hg.block _ (lt_of_block bx0) (by simp)).trans bx0; replace hW := grown_trans hW hg
  clear hg
  go_wp2_with fail
  refine (rMake_v 9 hX.z hY.z H0.out rfl (by omega) (by omega) (by omega)).mono ?_
  rintro ee v3 ⟨g6, p6, n6, c6, q6, m6, d6, rfl, hZ, hn6, hm6, hg⟩
  replace hX := hX.keep hg; replace hY := hY.keep hg; replace bx0 := (hg.block _ (lt_of_block bx0) (by simp)).trans bx0; replace hW := grown_trans hW hg
  clear hg
  have hg := World.grownBy_alloc v3 (.cells #[.bool g6, .slice p6 n6 c6, .slice q6 m6 d6] 27) none
  have hb := heap_alloc_new v3 (.cells #[.bool g6, .slice p6 n6 c6, .slice q6 m6 d6] 27)
  replace hX := hX.keep hg; replace hY := hY.keep hg; replace hZ := hZ.keep hg; replace bx0 := (hg.block _ (lt_of_block bx0) (by simp)).trans bx0
  replace hW := grown_trans hW hg
  obtain ⟨y0, y1, y2, _, _, _⟩ := ratbox_facts hb
  clear hg hb
  obtain ⟨l0, l1, l2, f0, f1, f2⟩ := ratbox_facts bx0
  go_wp2_with fail
  generalize v3.alloc (.cells #[.bool g6, .slice p6 n6 c6, .slice q6 m6 d6] 27) = u3 at *
  generalize v3.heap.size = K3 at *
  exact bodyPost_ret (v := .agg #[.bool g6, .slice p6 n6 c6, .slice q6 m6 d6]) (by simp [results, Tryz.results53, go_sem, l0, l1, l2, f0, f1, f2]) rfl
    (VPost.close bx0 (by omega) hW hZ (by omega) (by omega))

theorem rFrac3_v {w : World} (x y : Int) (h1 : -9223372036854775808 ≤ x) (h2 : x ≤ 9223372036854775807) (h3 : -9223372036854775808 ≤ y) (h4 : y ≤ 9223372036854775807) :
    Calls Tryz.prog 53 #[.int .i64 x, .int .i64 y] w (VPost w ((x : Rat) / (y : Rat)) 60) := by
  by_cases h0 : y = 0
  · subst h0; exact rFrac3_z x h1 h2
  · exact rFrac3_n x y h0 h1 h2 h3 h4
end Go.Proofs.YtgbfjneoieadmaaGreatDoor
