/-
  RatS RatK Open IntOpen RatOpen Tied RatP RatT, in one text.
-/
import Derived.Test.YtjpkncgfpbhnaaaGreatDoorMrR
import Derived.Deep.DeepCutAuto
import Derived.Test.YtjpkncgfpbhnaaaGreatDoorMrI
import Derived.Test.YtjpkncgfpbhnaaaGreatDoorRows
import Derived.Test.YtjpkncgfpbhnaaaGreatDoorMrN
import Derived.WalkKit
import Derived.ProofKit
import Derived.OpenShut
import Derived.Test.YtjpkncgfpbhnaaaGreatDoorTie
import Derived.Test.YtjpkncgfpbhnaaaGreatDoorCards
import Derived.LaidMore
import Derived.Lib.LaidTab
import Derived.Stop.Joined
import Derived.SevenTiedAt
set_option linter.unusedVariables false
set_option linter.unusedSimpArgs false
set_option maxRecDepth 100000
namespace Go.Proofs.YtjpkncgfpbhnaaaGreatDoor
open Go.RowKit Nm
theorem set3_block {w : World} {G : Nat} {x : Bool} {y z : Option Addr} {a b e f : Nat} {T : TypeId} (hb : w.heap[G]? = some (.cells #[.bool x, .slice y a b, .slice z e f] T (0, 0))) (g : Bool) (p : Option Addr) (n c : Nat) (q : Option Addr) (m d : Nat) :
    (((w.setCell ⟨G, 0, none⟩ (.bool g)).setCell ⟨G, 1, none⟩ (.slice p n c)).setCell ⟨G, 2, none⟩ (.slice q m d)).heap[G]? = some (.cells #[.bool g, .slice p n c, .slice q m d] T (0, 0)) := by
  have h1 := heap_setCell_same w G 0 _ _ (.bool g) hb
  have h2 := heap_setCell_same _ G 1 _ _ (.slice p n c) h1
  have h3 := heap_setCell_same _ G 2 _ _ (.slice q m d) h2
  rw [h3]
  simp
theorem IsV.other3 {w w' : World} {g : Bool} {p q : Option Addr} {n c m d G : Nat} {v : Rat} {x : Bool} {y z : Option Addr} {a b e f : Nat} {T : TypeId} (h : IsV w g p n c q m d v) (hb : w.heap[G]? = some (.cells #[.bool x, .slice y a b, .slice z e f] T (0, 0))) (hg : w.grownBy w' (some G)) : IsV w' g p n c q m d v :=
  ⟨⟨IsC.other3 h.1.1 hb hg, h.1.2⟩, h.2.other3 hb hg⟩
theorem IsV.nm {w : World} {g : Bool} {p q : Option Addr} {n c m d : Nat} {v : Rat} (h : IsV w g p n c q m d v) : IsI w g p n c v.num := h.1
theorem IsV.dn {w : World} {g : Bool} {p q : Option Addr} {n c m d : Nat} {v : Rat} (h : IsV w g p n c q m d v) : IsC w q m d v.den := h.2
def NRel (v u : Rat) (w w1 : World) (b : Nat) (wx : World) : Prop :=
  ∃ (g h : Bool) (p q r s : Option Addr) (n c m d k a l e : Nat), wx.heap[w.heap.size]? = some (.cells #[.bool g, .slice p n c, .slice q m d] 35 (0, 0)) ∧ wx.heap[w.heap.size + 1]? = some (.cells #[.bool h, .slice r k a, .slice s l e] 35 (0, 0)) ∧
    IsV wx g p n c q m d v ∧ IsV wx h r k a s l e u ∧ (n ≤ b ∧ m ≤ b) ∧ (k ≤ b ∧ l ≤ b) ∧ w.grownBy wx none ∧ (∀ j x, w.heap.size + 1 < j → w1.heap[j]? = some x → wx.heap[j]? = some x)
section
variable {v u : Rat} {w w1 w2 : World} {b : Nat} {g h x1 x2 : Bool} {p q r s y1 z1 y2 z2 : Option Addr} {n c m d k a l e a1 b1 e1 f1 a2 b2 e2 f2 : Nat}
theorem nrel_ab (bA : w2.heap[w.heap.size]? = some (.cells #[.bool x1, .slice y1 a1 b1, .slice z1 e1 f1] 35 (0, 0))) (bB : w2.heap[w.heap.size + 1]? = some (.cells #[.bool x2, .slice y2 a2 b2, .slice z2 e2 f2] 35 (0, 0)))
    (hV : IsV w2 g p n c q m d v) (hU : IsV w2 h r k a s l e u) (s1 : n ≤ b ∧ m ≤ b) (s2 : k ≤ b ∧ l ≤ b) (hW : w.grownBy w2 none) (hR : w1.grownBy w2 none) :
    NRel v u w w1 b ((((((w2.setCell ⟨w.heap.size, 0, none⟩ (.bool g)).setCell ⟨w.heap.size, 1, none⟩ (.slice p n c)).setCell ⟨w.heap.size, 2, none⟩ (.slice q m d)).setCell ⟨w.heap.size + 1, 0, none⟩ (.bool h)).setCell ⟨w.heap.size + 1, 1, none⟩ (.slice r k a)).setCell ⟨w.heap.size + 1, 2, none⟩ (.slice s l e)) := by
  have h1 := set3_grown w2 w.heap.size (.bool g) (.slice p n c) (.slice q m d)
  have k1 := set3_block bA g p n c q m d
  have k2 := (h1.block (w.heap.size + 1) (lt_of_block bB) (by simp)).trans bB
  have v1 := hV.other3 bA h1
  have u1 := hU.other3 bA h1
  have g1 := grown_new hW h1 (fun g e => by cases e; omega)
  have r1 : ∀ j x, w.heap.size + 1 < j → w1.heap[j]? = some x → (((w2.setCell ⟨w.heap.size, 0, none⟩ (.bool g)).setCell ⟨w.heap.size, 1, none⟩ (.slice p n c)).setCell ⟨w.heap.size, 2, none⟩ (.slice q m d)).heap[j]? = some x := fun j x hj hx =>
    (h1.block j (lt_of_block ((hR.block j (lt_of_block hx) (by simp)).trans hx)) (by simp; omega)).trans ((hR.block j (lt_of_block hx) (by simp)).trans hx)
  generalize (((w2.setCell ⟨w.heap.size, 0, none⟩ (.bool g)).setCell ⟨w.heap.size, 1, none⟩ (.slice p n c)).setCell ⟨w.heap.size, 2, none⟩ (.slice q m d)) = w3 at *
  have h2 := set3_grown w3 (w.heap.size + 1) (.bool h) (.slice r k a) (.slice s l e)
  exact ⟨g, h, p, q, r, s, n, c, m, d, k, a, l, e, (h2.block _ (lt_of_block k1) (by simp)).trans k1, set3_block k2 h r k a s l e, v1.other3 k2 h2, u1.other3 k2 h2, s1, s2, grown_new g1 h2 (fun g e => by cases e; omega),
    fun j x hj hx => (h2.block j (lt_of_block (r1 j x hj hx)) (by simp; omega)).trans (r1 j x hj hx)⟩
theorem nrel_ba (bA : w2.heap[w.heap.size]? = some (.cells #[.bool x1, .slice y1 a1 b1, .slice z1 e1 f1] 35 (0, 0))) (bB : w2.heap[w.heap.size + 1]? = some (.cells #[.bool x2, .slice y2 a2 b2, .slice z2 e2 f2] 35 (0, 0)))
    (hV : IsV w2 g p n c q m d v) (hU : IsV w2 h r k a s l e u) (s1 : n ≤ b ∧ m ≤ b) (s2 : k ≤ b ∧ l ≤ b) (hW : w.grownBy w2 none) (hR : w1.grownBy w2 none) :
    NRel v u w w1 b ((((((w2.setCell ⟨w.heap.size + 1, 0, none⟩ (.bool h)).setCell ⟨w.heap.size + 1, 1, none⟩ (.slice r k a)).setCell ⟨w.heap.size + 1, 2, none⟩ (.slice s l e)).setCell ⟨w.heap.size, 0, none⟩ (.bool g)).setCell ⟨w.heap.size, 1, none⟩ (.slice p n c)).setCell ⟨w.heap.size, 2, none⟩ (.slice q m d)) := by
  have h1 := set3_grown w2 (w.heap.size + 1) (.bool h) (.slice r k a) (.slice s l e)
  have k1 := set3_block bB h r k a s l e
  have k2 := (h1.block w.heap.size (lt_of_block bA) (by simp)).trans bA
  have v1 := hV.other3 bB h1
  have u1 := hU.other3 bB h1
  have g1 := grown_new hW h1 (fun g e => by cases e; omega)
  have r1 : ∀ j x, w.heap.size + 1 < j → w1.heap[j]? = some x → (((w2.setCell ⟨w.heap.size + 1, 0, none⟩ (.bool h)).setCell ⟨w.heap.size + 1, 1, none⟩ (.slice r k a)).setCell ⟨w.heap.size + 1, 2, none⟩ (.slice s l e)).heap[j]? = some x := fun j x hj hx =>
    (h1.block j (lt_of_block ((hR.block j (lt_of_block hx) (by simp)).trans hx)) (by simp; omega)).trans ((hR.block j (lt_of_block hx) (by simp)).trans hx)
  generalize (((w2.setCell ⟨w.heap.size + 1, 0, none⟩ (.bool h)).setCell ⟨w.heap.size + 1, 1, none⟩ (.slice r k a)).setCell ⟨w.heap.size + 1, 2, none⟩ (.slice s l e)) = w3 at *
  have h2 := set3_grown w3 w.heap.size (.bool g) (.slice p n c) (.slice q m d)
  exact ⟨g, h, p, q, r, s, n, c, m, d, k, a, l, e, set3_block k2 g p n c q m d, (h2.block _ (lt_of_block k1) (by simp)).trans k1, v1.other3 k2 h2, u1.other3 k2 h2, s1, s2, grown_new g1 h2 (fun g e => by cases e; omega),
    fun j x hj hx => (h2.block j (lt_of_block (r1 j x hj hx)) (by simp; omega)).trans (r1 j x hj hx)⟩
end
set_option maxRecDepth 20000 in
set_option maxHeartbeats 4000000 in
theorem rDiv3_e (S : Nat) {w : World} {g1 g2 : Bool} {p1 q1 p2 q2 : Option Addr} {n1 c1 m1 d1 n2 c2 m2 d2 : Nat} {v u : Rat} (hA : IsQ w g1 p1 n1 c1 q1 m1 d1 v) (hB : IsQ w g2 p2 n2 c2 q2 m2 d2 u) (h0 : u = 0) (hn1 : n1 ≤ S) (hm1 : m1 ≤ S) (hn2 : n2 ≤ S) (hm2 : m2 ≤ S) (hS : S ≤ 10000) :
    Calls Tryz.prog 167 #[.agg #[.bool g1, .slice p1 n1 c1, .slice q1 m1 d1], .agg #[.bool g2, .slice p2 n2 c2, .slice q2 m2 d2]] w (EPost w 3) := by
  have HZ := hid (show u.num * (v.den : Int) = 0 by rw [h0]; simp)
  clear h0
  have hW := (grown_trans (grown_trans (World.grownBy_alloc w (.cells #[.bool g1, .slice p1 n1 c1, .slice q1 m1 d1] 35) none) (World.grownBy_alloc _ (.cells #[.bool g2, .slice p2 n2 c2, .slice q2 m2 d2] 35) none)) (World.grownBy_alloc _ (.cells #[.bool false, .slice none 0 0, .slice none 0 0] 35) none))
  have bx0 : (((w.alloc (.cells #[.bool g1, .slice p1 n1 c1, .slice q1 m1 d1] 35)).alloc (.cells #[.bool g2, .slice p2 n2 c2, .slice q2 m2 d2] 35)).alloc (.cells #[.bool false, .slice none 0 0, .slice none 0 0] 35)).heap[w.heap.size]? = some (.cells #[.bool g1, .slice p1 n1 c1, .slice q1 m1 d1] 35 (0, 0)) := by
    have h0 := heap_alloc_new w (.cells #[.bool g1, .slice p1 n1 c1, .slice q1 m1 d1] 35)
    have h1 := (grown_trans (World.grownBy_alloc (w.alloc (.cells #[.bool g1, .slice p1 n1 c1, .slice q1 m1 d1] 35)) (.cells #[.bool g2, .slice p2 n2 c2, .slice q2 m2 d2] 35) none) (World.grownBy_alloc _ (.cells #[.bool false, .slice none 0 0, .slice none 0 0] 35) none)).block _ (lt_of_block h0) (by simp)
    have h2 := h1.trans h0
    simpa using h2
  have bx1 : (((w.alloc (.cells #[.bool g1, .slice p1 n1 c1, .slice q1 m1 d1] 35)).alloc (.cells #[.bool g2, .slice p2 n2 c2, .slice q2 m2 d2] 35)).alloc (.cells #[.bool false, .slice none 0 0, .slice none 0 0] 35)).heap[w.heap.size + 1]? = some (.cells #[.bool g2, .slice p2 n2 c2, .slice q2 m2 d2] 35 (0, 0)) := by
    have h0 := heap_alloc_new (w.alloc (.cells #[.bool g1, .slice p1 n1 c1, .slice q1 m1 d1] 35)) (.cells #[.bool g2, .slice p2 n2 c2, .slice q2 m2 d2] 35)
    have h1 := (World.grownBy_alloc ((w.alloc (.cells #[.bool g1, .slice p1 n1 c1, .slice q1 m1 d1] 35)).alloc (.cells #[.bool g2, .slice p2 n2 c2, .slice q2 m2 d2] 35)) (.cells #[.bool false, .slice none 0 0, .slice none 0 0] 35) none).block _ (lt_of_block h0) (by simp)
    have h2 := h1.trans h0
    simpa using h2
  have bx2 : (((w.alloc (.cells #[.bool g1, .slice p1 n1 c1, .slice q1 m1 d1] 35)).alloc (.cells #[.bool g2, .slice p2 n2 c2, .slice q2 m2 d2] 35)).alloc (.cells #[.bool false, .slice none 0 0, .slice none 0 0] 35)).heap[w.heap.size + 1 + 1]? = some (.cells #[.bool false, .slice none 0 0, .slice none 0 0] 35 (0, 0)) := by
    have := heap_alloc_new ((w.alloc (.cells #[.bool g1, .slice p1 n1 c1, .slice q1 m1 d1] 35)).alloc (.cells #[.bool g2, .slice p2 n2 c2, .slice q2 m2 d2] 35)) (.cells #[.bool false, .slice none 0 0, .slice none 0 0] 35)
    simpa using this
  replace hA := hA.keep hW; replace hB := hB.keep hW
  go_enter Tryz.func167, Tryz.ntmps167
  go_wp2_with fail
  generalize (((w.alloc (.cells #[.bool g1, .slice p1 n1 c1, .slice q1 m1 d1] 35)).alloc (.cells #[.bool g2, .slice p2 n2 c2, .slice q2 m2 d2] 35)).alloc (.cells #[.bool false, .slice none 0 0, .slice none 0 0] 35)) = w0 at *
  have hR := grown_refl w0 none
  have hg := grown_drew w0 none
  go_cut [2] from 6 to 9 (fun s2 wx => s2 = .pointer (some ⟨w.heap.size, 0, none⟩) ∧ NRel v u w w0 (S + 4) wx)
  case first =>
    replace hA := hA.keep hg; replace hB := hB.keep hg; replace bx0 := (hg.block _ (lt_of_block bx0) (by simp)).trans bx0; replace bx1 := (hg.block _ (lt_of_block bx1) (by simp)).trans bx1; replace bx2 := (hg.block _ (lt_of_block bx2) (by simp)).trans bx2; replace hW := grown_trans hW hg; replace hR := grown_trans hR hg
    clear hg
    obtain ⟨x0, x1, x2, _, _, _⟩ := ratbox_facts bx0
    obtain ⟨y0, y1, y2, _, _, _⟩ := ratbox_facts bx1
    go_region_with (first
      | (go_at_call 207; (with_reducible refine (norm_v S hA hn1 hm1 (by omega)).mono ?_); intro ee v1 HH; obtain ⟨g3, p3, n3, c3, q3, m3, d3, he, hV, hn3, hm3, hg⟩ := HH; subst he; replace hA := hA.keep hg; replace hB := hB.keep hg; replace x0 := hg.cell x0 (by simp); replace x1 := hg.cell x1 (by simp); replace x2 := hg.cell x2 (by simp); replace y0 := hg.cell y0 (by simp); replace y1 := hg.cell y1 (by simp); replace y2 := hg.cell y2 (by simp); replace bx0 := (hg.block _ (lt_of_block bx0) (by simp)).trans bx0; replace bx1 := (hg.block _ (lt_of_block bx1) (by simp)).trans bx1; replace bx2 := (hg.block _ (lt_of_block bx2) (by simp)).trans bx2; replace hW := grown_trans hW hg; replace hR := grown_trans hR hg; clear hg)
      | (go_at_call 207; (with_reducible refine (norm_v S hB hn2 hm2 (by omega)).mono ?_); intro ee v2 HH; obtain ⟨g4, p4, n4, c4, q4, m4, d4, he, hU, hn4, hm4, hg⟩ := HH; subst he; replace hA := hA.keep hg; replace hB := hB.keep hg; replace hV := hV.keep hg; replace x0 := hg.cell x0 (by simp); replace x1 := hg.cell x1 (by simp); replace x2 := hg.cell x2 (by simp); replace y0 := hg.cell y0 (by simp); replace y1 := hg.cell y1 (by simp); replace y2 := hg.cell y2 (by simp); replace bx0 := (hg.block _ (lt_of_block bx0) (by simp)).trans bx0; replace bx1 := (hg.block _ (lt_of_block bx1) (by simp)).trans bx1; replace bx2 := (hg.block _ (lt_of_block bx2) (by simp)).trans bx2; replace hW := grown_trans hW hg; replace hR := grown_trans hR hg; clear hg; have ff := ratbox_facts bx0; obtain ⟨_, _, _, fa0, fa1, fa2⟩ := ff; have ff := ratbox_facts bx1; obtain ⟨_, _, _, fb0, fb1, fb2⟩ := ff))
    all_goals
      go_wp2_with fail
      go_meet
      refine ⟨rfl, ?_⟩
      first
        | with_reducible exact nrel_ab bx0 bx1 hV hU ⟨hn3, hm3⟩ ⟨hn4, hm4⟩ hW hR
        | with_reducible exact nrel_ba bx0 bx1 hV hU ⟨hn3, hm3⟩ ⟨hn4, hm4⟩ hW hR
  case rest =>
    obtain ⟨rfl, g3, g4, p3, q3, p4, q4, n3, c3, m3, d3, n4, c4, m4, d4, bA, bB, hV, hU, ⟨hn3, hm3⟩, ⟨hn4, hm4⟩, hW, hR⟩ := hcut
    replace bx2 := hR _ _ (by omega) bx2
    obtain ⟨x0, x1, x2, _, _, _⟩ := ratbox_facts bA
    obtain ⟨y0, y1, y2, _, _, _⟩ := ratbox_facts bB
    clear hR hg
    clear bA bB bx0 bx1 hA hB
    go_wp2_with fail
    have hg := grown_drew wc none
    replace hV := hV.keep hg; replace hU := hU.keep hg; replace x0 := hg.cell x0 (by simp); replace x1 := hg.cell x1 (by simp)
    replace x2 := hg.cell x2 (by simp); replace y0 := hg.cell y0 (by simp); replace y1 := hg.cell y1 (by simp); replace y2 := hg.cell y2 (by simp)
    replace bx2 := (hg.block _ (lt_of_block bx2) (by simp)).trans bx2; replace hW := grown_trans hW hg
    clear hg
    go_region_held3 (fun w' => w'.cell? ⟨w.heap.size, 0, none⟩ = some (.bool g3) ∧ w'.cell? ⟨w.heap.size, 1, none⟩ = some (.slice p3 n3 c3) ∧ w'.cell? ⟨w.heap.size, 2, none⟩ = some (.slice q3 m3 d3) ∧ w'.cell? ⟨w.heap.size + 1, 0, none⟩ = some (.bool g4) ∧ w'.cell? ⟨w.heap.size + 1, 1, none⟩ = some (.slice p4 n4 c4) ∧ w'.cell? ⟨w.heap.size + 1, 2, none⟩ = some (.slice q4 m4 d4)) ((try go_split_ands) <;> (repeat' apply And.intro) <;> (repeat (first | (with_reducible assumption) | (with_reducible refine (grown_setCell _ _ _).cell ?_ (by first | (simp; omega) | simp)) | (with_reducible refine (World.grownBy_alloc _ _ none).cell ?_ (by simp)) | (with_reducible refine (grown_drew _ none).cell ?_ (by simp)))))
      (first
        | (go_at_call 210; (with_reducible refine (wholeT_any _ _ _).mono ?_); rintro ee v5 ⟨rfl, hg⟩; replace hV := hV.keep hg; replace hU := hU.keep hg; replace hX := hX.keep hg; replace x0 := hg.cell x0 (by simp); replace x1 := hg.cell x1 (by simp); replace x2 := hg.cell x2 (by simp); replace y0 := hg.cell y0 (by simp); replace y1 := hg.cell y1 (by simp); replace y2 := hg.cell y2 (by simp); replace bx2 := (hg.block _ (lt_of_block bx2) (by simp)).trans bx2; replace hW := grown_trans hW hg; clear hg)
        | (go_at_call 210; (with_reducible refine (wholeT_any _ _ _).mono ?_); rintro ee v5 ⟨rfl, hg⟩; replace hV := hV.keep hg; replace hU := hU.keep hg; replace x0 := hg.cell x0 (by simp); replace x1 := hg.cell x1 (by simp); replace x2 := hg.cell x2 (by simp); replace y0 := hg.cell y0 (by simp); replace y1 := hg.cell y1 (by simp); replace y2 := hg.cell y2 (by simp); replace bx2 := (hg.block _ (lt_of_block bx2) (by simp)).trans bx2; replace hW := grown_trans hW hg; clear hg)
        | (go_at_call 209; (with_reducible refine (rMul_any hV.nm.z (IsZ.of_n hU.dn.isN) (by omega) (by omega)).mono ?_); intro ee v6 HH; obtain ⟨g6, p6, n6, c6, he, hX, hn6, hg⟩ := HH; subst he; replace hV := hV.keep hg; replace hU := hU.keep hg; replace x0 := hg.cell x0 (by simp); replace x1 := hg.cell x1 (by simp); replace x2 := hg.cell x2 (by simp); replace y0 := hg.cell y0 (by simp); replace y1 := hg.cell y1 (by simp); replace y2 := hg.cell y2 (by simp); replace bx2 := (hg.block _ (lt_of_block bx2) (by simp)).trans bx2; replace hW := grown_trans hW hg; clear hg)
        | (go_at_call 209; (with_reducible refine (rMul_any hU.nm.z (IsZ.of_n hV.dn.isN) (by omega) (by omega)).mono ?_); intro ee v7 HH; obtain ⟨g7, p7, n7, c7, he, hY, hn7, hg⟩ := HH; subst he; replace hV := hV.keep hg; replace hU := hU.keep hg; replace hX := hX.keep hg; replace x0 := hg.cell x0 (by simp); replace x1 := hg.cell x1 (by simp); replace x2 := hg.cell x2 (by simp); replace y0 := hg.cell y0 (by simp); replace y1 := hg.cell y1 (by simp); replace y2 := hg.cell y2 (by simp); replace bx2 := (hg.block _ (lt_of_block bx2) (by simp)).trans bx2; replace hW := grown_trans hW hg; clear hg)
        | (go_at_call 208; (with_reducible refine (rMake_e (2 * S + 20) hX.z hY.z HZ.out (by omega) (by omega) (by omega)).mono ?_); rintro ee v8 ⟨rfl, hg⟩; replace hV := hV.keep hg; replace hU := hU.keep hg; replace hX := hX.keep hg; replace hY := hY.keep hg; replace x0 := hg.cell x0 (by simp); replace x1 := hg.cell x1 (by simp); replace x2 := hg.cell x2 (by simp); replace y0 := hg.cell y0 (by simp); replace y1 := hg.cell y1 (by simp); replace y2 := hg.cell y2 (by simp); replace bx2 := (hg.block _ (lt_of_block bx2) (by simp)).trans bx2; replace hW := grown_trans hW hg; clear hg; have ff := ratbox_facts bx2; obtain ⟨l0, l1, l2, f0, f1, f2⟩ := ff))
    go_wp2_with fail
    exact bodyPost_ret (v := .tuple #[.agg #[.bool false, .slice none 0 0, .slice none 0 0], .int .i64 3]) (by simp [results, Tryz.results167, go_sem, l0, l1, l2, f0, f1, f2]) rfl
      (EPost.close (by omega) hW _ _ _ _)
set_option maxRecDepth 20000 in
set_option maxHeartbeats 4000000 in
theorem rDiv3_v (S : Nat) {w : World} {g1 g2 : Bool} {p1 q1 p2 q2 : Option Addr} {n1 c1 m1 d1 n2 c2 m2 d2 : Nat} {v u : Rat} (hA : IsQ w g1 p1 n1 c1 q1 m1 d1 v) (hB : IsQ w g2 p2 n2 c2 q2 m2 d2 u) (h0 : u ≠ 0) (hn1 : n1 ≤ S) (hm1 : m1 ≤ S) (hn2 : n2 ≤ S) (hm2 : m2 ≤ S) (hS : S ≤ 10000) :
    Calls Tryz.prog 167 #[.agg #[.bool g1, .slice p1 n1 c1, .slice q1 m1 d1], .agg #[.bool g2, .slice p2 n2 c2, .slice q2 m2 d2]] w (MPost w (v / u) (8 * S + 100)) := by
  have hN : u.num ≠ 0 := fun h => h0 (Rat.num_eq_zero.1 h)
  have HZ := hid (show u.num * (v.den : Int) ≠ 0 from Int.mul_ne_zero hN (by have := v.den_pos; omega))
  have HV := hid (show ((v.num * (u.den : Int) : Int) : Rat) / ((u.num * (v.den : Int) : Int) : Rat) = v / u by rw [mk_div v.den_pos u.den_pos hN, Rat.mkRat_self, Rat.mkRat_self])
  clear h0 hN
  have hW := (grown_trans (grown_trans (World.grownBy_alloc w (.cells #[.bool g1, .slice p1 n1 c1, .slice q1 m1 d1] 35) none) (World.grownBy_alloc _ (.cells #[.bool g2, .slice p2 n2 c2, .slice q2 m2 d2] 35) none)) (World.grownBy_alloc _ (.cells #[.bool false, .slice none 0 0, .slice none 0 0] 35) none))
  have bx0 : (((w.alloc (.cells #[.bool g1, .slice p1 n1 c1, .slice q1 m1 d1] 35)).alloc (.cells #[.bool g2, .slice p2 n2 c2, .slice q2 m2 d2] 35)).alloc (.cells #[.bool false, .slice none 0 0, .slice none 0 0] 35)).heap[w.heap.size]? = some (.cells #[.bool g1, .slice p1 n1 c1, .slice q1 m1 d1] 35 (0, 0)) := by
    have h0 := heap_alloc_new w (.cells #[.bool g1, .slice p1 n1 c1, .slice q1 m1 d1] 35)
    have h1 := (grown_trans (World.grownBy_alloc (w.alloc (.cells #[.bool g1, .slice p1 n1 c1, .slice q1 m1 d1] 35)) (.cells #[.bool g2, .slice p2 n2 c2, .slice q2 m2 d2] 35) none) (World.grownBy_alloc _ (.cells #[.bool false, .slice none 0 0, .slice none 0 0] 35) none)).block _ (lt_of_block h0) (by simp)
    have h2 := h1.trans h0
    simpa using h2
  have bx1 : (((w.alloc (.cells #[.bool g1, .slice p1 n1 c1, .slice q1 m1 d1] 35)).alloc (.cells #[.bool g2, .slice p2 n2 c2, .slice q2 m2 d2] 35)).alloc (.cells #[.bool false, .slice none 0 0, .slice none 0 0] 35)).heap[w.heap.size + 1]? = some (.cells #[.bool g2, .slice p2 n2 c2, .slice q2 m2 d2] 35 (0, 0)) := by
    have h0 := heap_alloc_new (w.alloc (.cells #[.bool g1, .slice p1 n1 c1, .slice q1 m1 d1] 35)) (.cells #[.bool g2, .slice p2 n2 c2, .slice q2 m2 d2] 35)
    have h1 := (World.grownBy_alloc ((w.alloc (.cells #[.bool g1, .slice p1 n1 c1, .slice q1 m1 d1] 35)).alloc (.cells #[.bool g2, .slice p2 n2 c2, .slice q2 m2 d2] 35)) (.cells #[.bool false, .slice none 0 0, .slice none 0 0] 35) none).block _ (lt_of_block h0) (by simp)
    have h2 := h1.trans h0
    simpa using h2
  have bx2 : (((w.alloc (.cells #[.bool g1, .slice p1 n1 c1, .slice q1 m1 d1] 35)).alloc (.cells #[.bool g2, .slice p2 n2 c2, .slice q2 m2 d2] 35)).alloc (.cells #[.bool false, .slice none 0 0, .slice none 0 0] 35)).heap[w.heap.size + 1 + 1]? = some (.cells #[.bool false, .slice none 0 0, .slice none 0 0] 35 (0, 0)) := by
    have := heap_alloc_new ((w.alloc (.cells #[.bool g1, .slice p1 n1 c1, .slice q1 m1 d1] 35)).alloc (.cells #[.bool g2, .slice p2 n2 c2, .slice q2 m2 d2] 35)) (.cells #[.bool false, .slice none 0 0, .slice none 0 0] 35)
    simpa using this
  replace hA := hA.keep hW; replace hB := hB.keep hW
  go_enter Tryz.func167, Tryz.ntmps167
  go_wp2_with fail
  generalize (((w.alloc (.cells #[.bool g1, .slice p1 n1 c1, .slice q1 m1 d1] 35)).alloc (.cells #[.bool g2, .slice p2 n2 c2, .slice q2 m2 d2] 35)).alloc (.cells #[.bool false, .slice none 0 0, .slice none 0 0] 35)) = w0 at *
  have hR := grown_refl w0 none
  have hg := grown_drew w0 none
  go_cut [2] from 6 to 9 (fun s2 wx => s2 = .pointer (some ⟨w.heap.size, 0, none⟩) ∧ NRel v u w w0 (S + 4) wx)
  case first =>
    replace hA := hA.keep hg; replace hB := hB.keep hg; replace bx0 := (hg.block _ (lt_of_block bx0) (by simp)).trans bx0; replace bx1 := (hg.block _ (lt_of_block bx1) (by simp)).trans bx1; replace bx2 := (hg.block _ (lt_of_block bx2) (by simp)).trans bx2; replace hW := grown_trans hW hg; replace hR := grown_trans hR hg
    clear hg
    obtain ⟨x0, x1, x2, _, _, _⟩ := ratbox_facts bx0
    obtain ⟨y0, y1, y2, _, _, _⟩ := ratbox_facts bx1
    go_region_with (first
      | (go_at_call 207; (with_reducible refine (norm_v S hA hn1 hm1 (by omega)).mono ?_); intro ee v1 HH; obtain ⟨g3, p3, n3, c3, q3, m3, d3, he, hV, hn3, hm3, hg⟩ := HH; subst he; replace hA := hA.keep hg; replace hB := hB.keep hg; replace x0 := hg.cell x0 (by simp); replace x1 := hg.cell x1 (by simp); replace x2 := hg.cell x2 (by simp); replace y0 := hg.cell y0 (by simp); replace y1 := hg.cell y1 (by simp); replace y2 := hg.cell y2 (by simp); replace bx0 := (hg.block _ (lt_of_block bx0) (by simp)).trans bx0; replace bx1 := (hg.block _ (lt_of_block bx1) (by simp)).trans bx1; replace bx2 := (hg.block _ (lt_of_block bx2) (by simp)).trans bx2; replace hW := grown_trans hW hg; replace hR := grown_trans hR hg; clear hg)
      | (go_at_call 207; (with_reducible refine (norm_v S hB hn2 hm2 (by omega)).mono ?_); intro ee v2 HH; obtain ⟨g4, p4, n4, c4, q4, m4, d4, he, hU, hn4, hm4, hg⟩ := HH; subst he; replace hA := hA.keep hg; replace hB := hB.keep hg; replace hV := hV.keep hg; replace x0 := hg.cell x0 (by simp); replace x1 := hg.cell x1 (by simp); replace x2 := hg.cell x2 (by simp); replace y0 := hg.cell y0 (by simp); replace y1 := hg.cell y1 (by simp); replace y2 := hg.cell y2 (by simp); replace bx0 := (hg.block _ (lt_of_block bx0) (by simp)).trans bx0; replace bx1 := (hg.block _ (lt_of_block bx1) (by simp)).trans bx1; replace bx2 := (hg.block _ (lt_of_block bx2) (by simp)).trans bx2; replace hW := grown_trans hW hg; replace hR := grown_trans hR hg; clear hg; have ff := ratbox_facts bx0; obtain ⟨_, _, _, fa0, fa1, fa2⟩ := ff; have ff := ratbox_facts bx1; obtain ⟨_, _, _, fb0, fb1, fb2⟩ := ff))
    all_goals
      go_wp2_with fail
      go_meet
      refine ⟨rfl, ?_⟩
      first
        | with_reducible exact nrel_ab bx0 bx1 hV hU ⟨hn3, hm3⟩ ⟨hn4, hm4⟩ hW hR
        | with_reducible exact nrel_ba bx0 bx1 hV hU ⟨hn3, hm3⟩ ⟨hn4, hm4⟩ hW hR
  case rest =>
    obtain ⟨rfl, g3, g4, p3, q3, p4, q4, n3, c3, m3, d3, n4, c4, m4, d4, bA, bB, hV, hU, ⟨hn3, hm3⟩, ⟨hn4, hm4⟩, hW, hR⟩ := hcut
    replace bx2 := hR _ _ (by omega) bx2
    obtain ⟨x0, x1, x2, _, _, _⟩ := ratbox_facts bA
    obtain ⟨y0, y1, y2, _, _, _⟩ := ratbox_facts bB
    clear hR hg
    clear bA bB bx0 bx1 hA hB
    go_wp2_with fail
    have hg := grown_drew wc none
    replace hV := hV.keep hg; replace hU := hU.keep hg; replace x0 := hg.cell x0 (by simp); replace x1 := hg.cell x1 (by simp)
    replace x2 := hg.cell x2 (by simp); replace y0 := hg.cell y0 (by simp); replace y1 := hg.cell y1 (by simp); replace y2 := hg.cell y2 (by simp)
    replace bx2 := (hg.block _ (lt_of_block bx2) (by simp)).trans bx2; replace hW := grown_trans hW hg
    clear hg
    go_region_held3 (fun w' => w'.cell? ⟨w.heap.size, 0, none⟩ = some (.bool g3) ∧ w'.cell? ⟨w.heap.size, 1, none⟩ = some (.slice p3 n3 c3) ∧ w'.cell? ⟨w.heap.size, 2, none⟩ = some (.slice q3 m3 d3) ∧ w'.cell? ⟨w.heap.size + 1, 0, none⟩ = some (.bool g4) ∧ w'.cell? ⟨w.heap.size + 1, 1, none⟩ = some (.slice p4 n4 c4) ∧ w'.cell? ⟨w.heap.size + 1, 2, none⟩ = some (.slice q4 m4 d4)) ((try go_split_ands) <;> (repeat' apply And.intro) <;> (repeat (first | (with_reducible assumption) | (with_reducible refine (grown_setCell _ _ _).cell ?_ (by first | (simp; omega) | simp)) | (with_reducible refine (World.grownBy_alloc _ _ none).cell ?_ (by simp)) | (with_reducible refine (grown_drew _ none).cell ?_ (by simp)))))
      (first
        | (go_at_call 210; (with_reducible refine (wholeT_any _ _ _).mono ?_); rintro ee v5 ⟨rfl, hg⟩; replace hV := hV.keep hg; replace hU := hU.keep hg; replace hX := hX.keep hg; replace x0 := hg.cell x0 (by simp); replace x1 := hg.cell x1 (by simp); replace x2 := hg.cell x2 (by simp); replace y0 := hg.cell y0 (by simp); replace y1 := hg.cell y1 (by simp); replace y2 := hg.cell y2 (by simp); replace bx2 := (hg.block _ (lt_of_block bx2) (by simp)).trans bx2; replace hW := grown_trans hW hg; clear hg)
        | (go_at_call 210; (with_reducible refine (wholeT_any _ _ _).mono ?_); rintro ee v5 ⟨rfl, hg⟩; replace hV := hV.keep hg; replace hU := hU.keep hg; replace x0 := hg.cell x0 (by simp); replace x1 := hg.cell x1 (by simp); replace x2 := hg.cell x2 (by simp); replace y0 := hg.cell y0 (by simp); replace y1 := hg.cell y1 (by simp); replace y2 := hg.cell y2 (by simp); replace bx2 := (hg.block _ (lt_of_block bx2) (by simp)).trans bx2; replace hW := grown_trans hW hg; clear hg)
        | (go_at_call 209; (with_reducible refine (rMul_any hV.nm.z (IsZ.of_n hU.dn.isN) (by omega) (by omega)).mono ?_); intro ee v6 HH; obtain ⟨g6, p6, n6, c6, he, hX, hn6, hg⟩ := HH; subst he; replace hV := hV.keep hg; replace hU := hU.keep hg; replace x0 := hg.cell x0 (by simp); replace x1 := hg.cell x1 (by simp); replace x2 := hg.cell x2 (by simp); replace y0 := hg.cell y0 (by simp); replace y1 := hg.cell y1 (by simp); replace y2 := hg.cell y2 (by simp); replace bx2 := (hg.block _ (lt_of_block bx2) (by simp)).trans bx2; replace hW := grown_trans hW hg; clear hg)
        | (go_at_call 209; (with_reducible refine (rMul_any hU.nm.z (IsZ.of_n hV.dn.isN) (by omega) (by omega)).mono ?_); intro ee v7 HH; obtain ⟨g7, p7, n7, c7, he, hY, hn7, hg⟩ := HH; subst he; replace hV := hV.keep hg; replace hU := hU.keep hg; replace hX := hX.keep hg; replace x0 := hg.cell x0 (by simp); replace x1 := hg.cell x1 (by simp); replace x2 := hg.cell x2 (by simp); replace y0 := hg.cell y0 (by simp); replace y1 := hg.cell y1 (by simp); replace y2 := hg.cell y2 (by simp); replace bx2 := (hg.block _ (lt_of_block bx2) (by simp)).trans bx2; replace hW := grown_trans hW hg; clear hg)
        | (go_at_call 208; (with_reducible refine (rMake_v (2 * S + 20) hX.z hY.z HZ.out HV.out (by omega) (by omega) (by omega)).mono ?_); intro ee v8 HH; obtain ⟨g10, p10, n10, c10, q10, m10, d10, he, hZ, hn10, hm10, hg⟩ := HH; subst he; replace hV := hV.keep hg; replace hU := hU.keep hg; replace hX := hX.keep hg; replace hY := hY.keep hg; replace x0 := hg.cell x0 (by simp); replace x1 := hg.cell x1 (by simp); replace x2 := hg.cell x2 (by simp); replace y0 := hg.cell y0 (by simp); replace y1 := hg.cell y1 (by simp); replace y2 := hg.cell y2 (by simp); replace bx2 := (hg.block _ (lt_of_block bx2) (by simp)).trans bx2; replace hW := grown_trans hW hg; clear hg; have ff := ratbox_facts bx2; obtain ⟨l0, l1, l2, f0, f1, f2⟩ := ff))
    go_wp2_with fail
    exact bodyPost_ret (v := .tuple #[.agg #[.bool g10, .slice p10 n10 c10, .slice q10 m10 d10], .int .i64 0]) (by simp [results, Tryz.results167, go_sem, l0, l1, l2, f0, f1, f2]) rfl
      (MPost.close bx2 (by omega) hW hZ (by omega) (by omega))
end Go.Proofs.YtjpkncgfpbhnaaaGreatDoor
namespace Go.Proofs.YtjpkncgfpbhnaaaGreatDoor
open Go.ChangeShapes Go.WideShapes Go.ChangeAt Go.RowKit Nm
theorem own1 : ownKnob Tryz.prog.godebug = none := by kernel_rfl
section
variable {H : Type} {enc : TypeId × Value → H} {W : World} {v : Value} {d : DataW H} {ps : List MemPlace}
end
section
variable {H : Type} {enc : TypeId × Value → H} {W : World} {v : Value} {d : DataW H} {ps : List MemPlace}
end
section
variable {H : Type} {enc : TypeId × Value → H} {W : World} {v : Value} {d : DataW H} {ps : List MemPlace}
end
theorem gTab : Tryz.prog.globalNamed "math/bits.deBruijn64tab" = some 5 := by kernel_rfl
theorem tTab : (Tryz.prog.globals[5]?).map (·.type) = some 292 := by kernel_rfl
theorem tab_data : (Rows.laid_math_bits_deBruijn64tab : DataW Unit) = Lib.tabData .u8 (Lib.deBruijn64tab.map Int.ofNat) := by rfl
theorem tb_of_tab {W : World} (h : Lib.TabIs Tryz.prog W "math/bits.deBruijn64tab" .u8 (Lib.deBruijn64tab.map Int.ofNat)) : Tb W := by
  intro j hj
  have hl : (Lib.deBruijn64tab.map Int.ofNat).length = 64 := by rfl
  have := h.cell gTab j (by omega)
  rw [this]
  congr 2
  have hl2 : Lib.deBruijn64tab.length = 64 := by rfl
  simp [List.getD, hl2, hj]
end Go.Proofs.YtjpkncgfpbhnaaaGreatDoor
namespace Go.Proofs.YtjpkncgfpbhnaaaGreatDoor
open Go.RowKit Nm
theorem IsQ.of {w : World} {a b : Option Addr} {n c m d : Nat} {xs ys : List Nat} (g : Bool) (h : IRd w .u16 a n c xs) (hx : Dg 65536 xs) (k : IRd w .u16 b m d ys) (hy : Dg 65536 ys) : IsQ w g a n c b m d (mkRat (sg g (V 65536 xs)) (V 65536 ys)) :=
  ⟨_, _, IsZ.of g h hx, IsN.of k hy, rfl⟩
set_option maxRecDepth 20000 in
set_option maxHeartbeats 4000000 in
theorem ratNeg_v (S : Nat) {w : World} (T : Tb w) {g1 : Bool} {p1 q1 : Option Addr} {n1 c1 m1 d1 : Nat} {v : Rat} (hA : IsQ w g1 p1 n1 c1 q1 m1 d1 v) (hn1 : n1 ≤ S) (hm1 : m1 ≤ S) (hS : S ≤ 40000) :
    Calls Tryz.prog 164 #[.agg #[.bool g1, .slice p1 n1 c1, .slice q1 m1 d1]] w (VPost w (-v) (4 * S + 20)) := by
  have HT := hid T
  clear T
  have hW := (grown_trans (World.grownBy_alloc w (.cells #[.bool g1, .slice p1 n1 c1, .slice q1 m1 d1] 35) none) (World.grownBy_alloc _ (.cells #[.bool false, .slice none 0 0, .slice none 0 0] 35) none))
  have bx0 : ((w.alloc (.cells #[.bool g1, .slice p1 n1 c1, .slice q1 m1 d1] 35)).alloc (.cells #[.bool false, .slice none 0 0, .slice none 0 0] 35)).heap[w.heap.size]? = some (.cells #[.bool g1, .slice p1 n1 c1, .slice q1 m1 d1] 35 (0, 0)) := by
    have h0 := heap_alloc_new w (.cells #[.bool g1, .slice p1 n1 c1, .slice q1 m1 d1] 35)
    have h1 := (World.grownBy_alloc (w.alloc (.cells #[.bool g1, .slice p1 n1 c1, .slice q1 m1 d1] 35)) (.cells #[.bool false, .slice none 0 0, .slice none 0 0] 35) none).block _ (lt_of_block h0) (by simp)
    have h2 := h1.trans h0
    simpa using h2
  obtain ⟨x0, x1, x2, _, _, _⟩ := ratbox_facts bx0
  clear bx0
  have bx1 : ((w.alloc (.cells #[.bool g1, .slice p1 n1 c1, .slice q1 m1 d1] 35)).alloc (.cells #[.bool false, .slice none 0 0, .slice none 0 0] 35)).heap[w.heap.size + 1]? = some (.cells #[.bool false, .slice none 0 0, .slice none 0 0] 35 (0, 0)) := by
    have := heap_alloc_new (w.alloc (.cells #[.bool g1, .slice p1 n1 c1, .slice q1 m1 d1] 35)) (.cells #[.bool false, .slice none 0 0, .slice none 0 0] 35)
    simpa using this
  replace hA := hA.keep hW
  go_enter Tryz.func164, Tryz.ntmps164
  go_wp2_with fail
  generalize ((w.alloc (.cells #[.bool g1, .slice p1 n1 c1, .slice q1 m1 d1] 35)).alloc (.cells #[.bool false, .slice none 0 0, .slice none 0 0] 35)) = w0 at *
  refine (opposite_any _ _ _ _ _ _ _).mono ?_
  rintro ee v1 ⟨rfl, hg⟩
  replace hA := hA.keep hg; replace x0 := hg.cell x0 (by simp); replace x1 := hg.cell x1 (by simp); replace x2 := hg.cell x2 (by simp)
  replace bx1 := (hg.block _ (lt_of_block bx1) (by simp)).trans bx1; replace hW := grown_trans hW hg
  clear hg
  obtain ⟨N, D, hX, hE, HV⟩ := hA.opp
  replace HV := hid HV
  clear hA
  go_wp2_with fail
  refine (parts_any hX hE (by omega) (by omega)).mono ?_
  rintro ee v2 ⟨g3, p3, n3, c3, q3, m3, d3, rfl, hN, hD, hn3, hm3, hg⟩
  replace hX := hX.keep hg; replace hE := hE.keep hg; replace x0 := hg.cell x0 (by simp); replace x1 := hg.cell x1 (by simp)
  replace x2 := hg.cell x2 (by simp); replace bx1 := (hg.block _ (lt_of_block bx1) (by simp)).trans bx1; replace hW := grown_trans hW hg
  clear hg
  go_wp2_with fail
  refine (lowest_v (B := S + 5) (HT.out.keep hW) hN hD (pd_pos D) (by omega) (by omega) (by omega)).mono ?_
  rintro ee v3 ⟨g6, p6, n6, c6, q6, m6, d6, rfl, hZ, hn6, hm6, hg⟩
  replace hX := hX.keep hg; replace hE := hE.keep hg; replace hN := hN.keep hg; replace hD := hD.keep hg
  replace x0 := hg.cell x0 (by simp); replace x1 := hg.cell x1 (by simp); replace x2 := hg.cell x2 (by simp); replace bx1 := (hg.block _ (lt_of_block bx1) (by simp)).trans bx1
  replace hW := grown_trans hW hg
  clear hg
  obtain ⟨l0, l1, l2, f0, f1, f2⟩ := ratbox_facts bx1
  go_wp2_with fail
  exact bodyPost_ret (v := .agg #[.bool g6, .slice p6 n6 c6, .slice q6 m6 d6]) (by simp [results, Tryz.results164, go_sem, l0, l1, l2, f0, f1, f2]) rfl
    (VPost.close bx1 (by omega) hW (hZ.congr ((pq N D).trans HV.out.symm)) (by omega) (by omega))
end Go.Proofs.YtjpkncgfpbhnaaaGreatDoor
