/-
  RatX, in one text.
-/
import Derived.Test.YtdgcmbpmjcfhpaaDoorMrP

set_option linter.unusedVariables false
set_option linter.unusedSimpArgs false
namespace Go.Proofs.YtdgcmbpmjcfhpaaDoor
open Go.RowKit Nm

/-- block u is a new struct of the type api.Rat -/
def RBoxAt (w : World) (u : Nat) : Prop := w.heap[u]? = some (.cells #[.bool false, .slice none 0 0, .slice none 0 0] 30 (0, 0))
abbrev RZ : Obj := .cells #[.bool false, .slice none 0 0, .slice none 0 0] 30
theorem RBoxAt.new (w : World) : RBoxAt (w.alloc (.cells #[.bool false, .slice none 0 0, .slice none 0 0] 30)) w.heap.size := heap_alloc_new w _
theorem RBoxAt.new2 (w : World) (o : Obj) : RBoxAt ((w.alloc o).alloc (.cells #[.bool false, .slice none 0 0, .slice none 0 0] 30)) (w.heap.size + 1) := by
  have := RBoxAt.new (w.alloc o)
  simpa using this
theorem RBoxAt.grown {w w' : World} {u : Nat} (h : RBoxAt w u) (hg : w.grownBy w' none) : RBoxAt w' u := (hg.block u (lt_of_block h) (by simp)).trans h
theorem RBoxAt.alloc {w : World} {u : Nat} (h : RBoxAt w u) (o : Obj) : RBoxAt (w.alloc o) u := h.grown (World.grownBy_alloc w o none)
theorem RBoxAt.drew {w : World} {u : Nat} (h : RBoxAt w u) : RBoxAt w.drew u := h
theorem RBoxAt.facts {w : World} {u : Nat} (h : RBoxAt w u) : w.cell? ⟨u, 0, none⟩ = some (.bool false) ∧ w.cell? ⟨u, 1, none⟩ = some (.slice none 0 0) ∧ w.cell? ⟨u, 2, none⟩ = some (.slice none 0 0) ∧ w.frozen? ⟨u, 0, none⟩ = false ∧ w.frozen? ⟨u, 1, none⟩ = false ∧ w.frozen? ⟨u, 2, none⟩ = false ∧ u < w.heap.size :=
  ⟨(ratbox_facts h).1, (ratbox_facts h).2.1, (ratbox_facts h).2.2.1, (ratbox_facts h).2.2.2.1, (ratbox_facts h).2.2.2.2.1, (ratbox_facts h).2.2.2.2.2, lt_of_block h⟩

def RPair (A B : Rat) (b : Nat) (w0 : World) (s7 s8 : Value) (wx : World) : Prop :=
  ∃ (u v : Nat) (g1 g2 : Bool) (p1 p2 q1 q2 : Option Addr) (n1 c1 m1 d1 n2 c2 m2 d2 : Nat), s7 = .pointer (some ⟨u, 0, none⟩) ∧ s8 = .pointer (some ⟨v, 0, none⟩) ∧
    wx.cell? ⟨u, 0, none⟩ = some (.bool g1) ∧ wx.cell? ⟨u, 1, none⟩ = some (.slice p1 n1 c1) ∧ wx.cell? ⟨u, 2, none⟩ = some (.slice q1 m1 d1) ∧
    wx.cell? ⟨v, 0, none⟩ = some (.bool g2) ∧ wx.cell? ⟨v, 1, none⟩ = some (.slice p2 n2 c2) ∧ wx.cell? ⟨v, 2, none⟩ = some (.slice q2 m2 d2) ∧
    IsV wx g1 p1 n1 c1 q1 m1 d1 A ∧ IsV wx g2 p2 n2 c2 q2 m2 d2 B ∧ (n1 ≤ b ∧ m1 ≤ b) ∧ (n2 ≤ b ∧ m2 ≤ b) ∧ w0.grownBy wx none

/-- the block's three cells were written -/
def RSet (w w' : World) (u : Nat) (g : Bool) (p : Option Addr) (n c : Nat) (q : Option Addr) (m d : Nat) : Prop :=
  w.grownBy w' (some u) ∧ w'.heap.size = w.heap.size ∧ w'.cell? ⟨u, 0, none⟩ = some (.bool g) ∧ w'.cell? ⟨u, 1, none⟩ = some (.slice p n c) ∧ w'.cell? ⟨u, 2, none⟩ = some (.slice q m d)
theorem rbox_set {w : World} {u : Nat} (h : RBoxAt w u) (g : Bool) (p : Option Addr) (n c : Nat) (q : Option Addr) (m d : Nat) :
    RSet w (((w.setCell ⟨u, 0, none⟩ (.bool g)).setCell ⟨u, 1, none⟩ (.slice p n c)).setCell ⟨u, 2, none⟩ (.slice q m d)) u g p n c q m d := by
  obtain ⟨a, b, e, f0, f1, f2, hl⟩ := h.facts
  refine ⟨set3_grown w u _ _ _, by simp, ?_, ?_, ?_⟩
  · simp [go_sem, a, b, e, f0, f1, f2]
  · simp [go_sem, a, b, e, f0, f1, f2]
  · simp [go_sem, a, b, e, f0, f1, f2]
theorem IsV.other {w w' : World} {g : Bool} {p q : Option Addr} {n c m d G : Nat} {v : Rat} {x : Bool} {y z : Option Addr} {a b e f : Nat} {T : TypeId} (h : IsV w g p n c q m d v) (hb : w.heap[G]? = some (.cells #[.bool x, .slice y a b, .slice z e f] T (0, 0))) (hg : w.grownBy w' (some G)) : IsV w' g p n c q m d v :=
  ⟨⟨IsC.other3 h.1.1 hb hg, h.1.2⟩, h.2.other3 hb hg⟩

section
variable {A B : Rat} {b : Nat} {w0 w2 : World} {g1 g2 : Bool} {p1 p2 q1 q2 : Option Addr} {n1 c1 m1 d1 n2 c2 m2 d2 u v : Nat}
theorem rleaf_alloc (h1 : IsV w2 g1 p1 n1 c1 q1 m1 d1 A) (h2 : IsV w2 g2 p2 n2 c2 q2 m2 d2 B) (b1 : n1 ≤ b ∧ m1 ≤ b) (b2 : n2 ≤ b ∧ m2 ≤ b) (hg : w0.grownBy w2 none) :
    RPair A B b w0 (.pointer (some ⟨w2.heap.size, 0, none⟩)) (.pointer (some ⟨w2.heap.size + 1, 0, none⟩)) ((w2.alloc (.cells #[.bool g1, .slice p1 n1 c1, .slice q1 m1 d1] 30)).alloc (.cells #[.bool g2, .slice p2 n2 c2, .slice q2 m2 d2] 30)) := by
  have hA := grown_trans (World.grownBy_alloc w2 (.cells #[.bool g1, .slice p1 n1 c1, .slice q1 m1 d1] 30) none) (World.grownBy_alloc _ (.cells #[.bool g2, .slice p2 n2 c2, .slice q2 m2 d2] 30) none)
  exact ⟨_, _, g1, g2, p1, p2, q1, q2, n1, c1, m1, d1, n2, c2, m2, d2, rfl, rfl, by simp [go_sem], by simp [go_sem], by simp [go_sem], by simp [go_sem], by simp [go_sem], by simp [go_sem], h1.keep hA, h2.keep hA, b1, b2, grown_trans hg hA⟩
theorem rleaf_alloc' (h1 : IsV w2 g1 p1 n1 c1 q1 m1 d1 A) (h2 : IsV w2 g2 p2 n2 c2 q2 m2 d2 B) (b1 : n1 ≤ b ∧ m1 ≤ b) (b2 : n2 ≤ b ∧ m2 ≤ b) (hg : w0.grownBy w2 none) :
    RPair A B b w0 (.pointer (some ⟨w2.heap.size + 1, 0, none⟩)) (.pointer (some ⟨w2.heap.size, 0, none⟩)) ((w2.alloc (.cells #[.bool g2, .slice p2 n2 c2, .slice q2 m2 d2] 30)).alloc (.cells #[.bool g1, .slice p1 n1 c1, .slice q1 m1 d1] 30)) := by
  have hA := grown_trans (World.grownBy_alloc w2 (.cells #[.bool g2, .slice p2 n2 c2, .slice q2 m2 d2] 30) none) (World.grownBy_alloc _ (.cells #[.bool g1, .slice p1 n1 c1, .slice q1 m1 d1] 30) none)
  exact ⟨_, _, g1, g2, p1, p2, q1, q2, n1, c1, m1, d1, n2, c2, m2, d2, rfl, rfl, by simp [go_sem], by simp [go_sem], by simp [go_sem], by simp [go_sem], by simp [go_sem], by simp [go_sem], h1.keep hA, h2.keep hA, b1, b2, grown_trans hg hA⟩
theorem rleaf_set1 (h1 : IsV w2 g1 p1 n1 c1 q1 m1 d1 A) (h2 : IsV w2 g2 p2 n2 c2 q2 m2 d2 B) (b1 : n1 ≤ b ∧ m1 ≤ b) (b2 : n2 ≤ b ∧ m2 ≤ b) (hg : w0.grownBy w2 none) (hb : RBoxAt w2 u) (hu : w0.heap.size ≤ u) :
    RPair A B b w0 (.pointer (some ⟨u, 0, none⟩)) (.pointer (some ⟨w2.heap.size, 0, none⟩)) ((((w2.setCell ⟨u, 0, none⟩ (.bool g1)).setCell ⟨u, 1, none⟩ (.slice p1 n1 c1)).setCell ⟨u, 2, none⟩ (.slice q1 m1 d1)).alloc (.cells #[.bool g2, .slice p2 n2 c2, .slice q2 m2 d2] 30)) := by
  have k := rbox_set hb g1 p1 n1 c1 q1 m1 d1
  have hG := grown_new hg k.1 (fun g e => by cases e; exact hu)
  have r1 := h1.other hb k.1
  have r2 := h2.other hb k.1
  obtain ⟨hS, hz, k0, k1, k2⟩ := k
  rw [← hz]
  generalize ((w2.setCell ⟨u, 0, none⟩ (.bool g1)).setCell ⟨u, 1, none⟩ (.slice p1 n1 c1)).setCell ⟨u, 2, none⟩ (.slice q1 m1 d1) = w3 at *
  have hA := World.grownBy_alloc w3 (.cells #[.bool g2, .slice p2 n2 c2, .slice q2 m2 d2] 30) none
  exact ⟨_, _, g1, g2, p1, p2, q1, q2, n1, c1, m1, d1, n2, c2, m2, d2, rfl, rfl, hA.cell k0 (by simp), hA.cell k1 (by simp), hA.cell k2 (by simp), by simp [go_sem], by simp [go_sem], by simp [go_sem], r1.keep hA, r2.keep hA, b1, b2, grown_trans hG hA⟩
theorem rleaf_set2 (h1 : IsV w2 g1 p1 n1 c1 q1 m1 d1 A) (h2 : IsV w2 g2 p2 n2 c2 q2 m2 d2 B) (b1 : n1 ≤ b ∧ m1 ≤ b) (b2 : n2 ≤ b ∧ m2 ≤ b) (hg : w0.grownBy w2 none) (hb : RBoxAt w2 u) (hu : w0.heap.size ≤ u) :
    RPair A B b w0 (.pointer (some ⟨w2.heap.size, 0, none⟩)) (.pointer (some ⟨u, 0, none⟩)) ((((w2.setCell ⟨u, 0, none⟩ (.bool g2)).setCell ⟨u, 1, none⟩ (.slice p2 n2 c2)).setCell ⟨u, 2, none⟩ (.slice q2 m2 d2)).alloc (.cells #[.bool g1, .slice p1 n1 c1, .slice q1 m1 d1] 30)) := by
  have k := rbox_set hb g2 p2 n2 c2 q2 m2 d2
  have hG := grown_new hg k.1 (fun g e => by cases e; exact hu)
  have r1 := h1.other hb k.1
  have r2 := h2.other hb k.1
  obtain ⟨hS, hz, k0, k1, k2⟩ := k
  rw [← hz]
  generalize ((w2.setCell ⟨u, 0, none⟩ (.bool g2)).setCell ⟨u, 1, none⟩ (.slice p2 n2 c2)).setCell ⟨u, 2, none⟩ (.slice q2 m2 d2) = w3 at *
  have hA := World.grownBy_alloc w3 (.cells #[.bool g1, .slice p1 n1 c1, .slice q1 m1 d1] 30) none
  exact ⟨_, _, g1, g2, p1, p2, q1, q2, n1, c1, m1, d1, n2, c2, m2, d2, rfl, rfl, by simp [go_sem], by simp [go_sem], by simp [go_sem], hA.cell k0 (by simp), hA.cell k1 (by simp), hA.cell k2 (by simp), r1.keep hA, r2.keep hA, b1, b2, grown_trans hG hA⟩
theorem rleaf_sets (h1 : IsV w2 g1 p1 n1 c1 q1 m1 d1 A) (h2 : IsV w2 g2 p2 n2 c2 q2 m2 d2 B) (b1 : n1 ≤ b ∧ m1 ≤ b) (b2 : n2 ≤ b ∧ m2 ≤ b) (hg : w0.grownBy w2 none) (hb : RBoxAt w2 u) (hc : RBoxAt w2 v) (hu : w0.heap.size ≤ u) (hv : w0.heap.size ≤ v) (hne : v ≠ u) :
    RPair A B b w0 (.pointer (some ⟨u, 0, none⟩)) (.pointer (some ⟨v, 0, none⟩)) ((((((w2.setCell ⟨u, 0, none⟩ (.bool g1)).setCell ⟨u, 1, none⟩ (.slice p1 n1 c1)).setCell ⟨u, 2, none⟩ (.slice q1 m1 d1)).setCell ⟨v, 0, none⟩ (.bool g2)).setCell ⟨v, 1, none⟩ (.slice p2 n2 c2)).setCell ⟨v, 2, none⟩ (.slice q2 m2 d2)) := by
  have k := rbox_set hb g1 p1 n1 c1 q1 m1 d1
  have hG := grown_new hg k.1 (fun g e => by cases e; exact hu)
  have r1 := h1.other hb k.1
  have r2 := h2.other hb k.1
  obtain ⟨hS, hz, k0, k1, k2⟩ := k
  have hc3 : RBoxAt (((w2.setCell ⟨u, 0, none⟩ (.bool g1)).setCell ⟨u, 1, none⟩ (.slice p1 n1 c1)).setCell ⟨u, 2, none⟩ (.slice q1 m1 d1)) v := (hS.block v (lt_of_block hc) (by simpa using hne)).trans hc
  generalize ((w2.setCell ⟨u, 0, none⟩ (.bool g1)).setCell ⟨u, 1, none⟩ (.slice p1 n1 c1)).setCell ⟨u, 2, none⟩ (.slice q1 m1 d1) = w3 at *
  have l := rbox_set hc3 g2 p2 n2 c2 q2 m2 d2
  have hG' := grown_new hG l.1 (fun g e => by cases e; exact hv)
  have r1' := r1.other hc3 l.1
  have r2' := r2.other hc3 l.1
  obtain ⟨hS', hz', l0, l1, l2⟩ := l
  exact ⟨_, _, g1, g2, p1, p2, q1, q2, n1, c1, m1, d1, n2, c2, m2, d2, rfl, rfl, hS'.cell k0 (by simpa using Ne.symm hne), hS'.cell k1 (by simpa using Ne.symm hne), hS'.cell k2 (by simpa using Ne.symm hne), l0, l1, l2, r1', r2', b1, b2, hG'⟩
end
end Go.Proofs.YtdgcmbpmjcfhpaaDoor
