/-
  SRow SOwn ZMem Stay QOwn SStep Box4 MonoB MonoC MonoD MonoE MonoF MonoG MonoH, in one text.
-/
import Derived.Test.YtknmdmofmcfjhaaGreatDoorMem
import Derived.Test.YtknmdmofmcfjhaaGreatDoorOwn
import Derived.Laws.AppendOwn
import Derived.Laws.MakeOwn
import Derived.Maps.AppendAt
import Derived.Test.YtknmdmofmcfjhaaGreatDoorProg
import Derived.Test.YtknmdmofmcfjhaaGreatDoorMonoA
import Derived.Outline
import Derived.Lib.MinMax
import Derived.Deep.RegionHeld3
import Derived.Deep.AppendLies
import Derived.Lib.SliceRun

set_option linter.unusedVariables false
set_option linter.unusedSimpArgs false
namespace Nm
open Go Go.RowKit

/-- the address a is the head of elements of k cells that read as l -/
def SCel (w : World) (k : Nat) (a : Option Addr) (l : List (List Value)) : Prop :=
  ∀ i (h : i < l.length) j (hj : j < (l[i]).length), ∃ b o, a = some ⟨b, o, none⟩ ∧ w.cell? ⟨b, o + i * k + j, none⟩ = some (l[i])[j]
/-- .slice a n c is a slice of structs of k cells that reads as l -/
structure SRd (w : World) (k : Nat) (a : Option Addr) (n c : Nat) (l : List (List Value)) : Prop where
  len : l.length = n
  each : ∀ r ∈ l, r.length = k
  cap : n ≤ c
  max : c ≤ 9223372036854775807
  cel : SCel w k a l
section
variable {w w' : World} {k : Nat} {a : Option Addr} {n c : Nat} {l : List (List Value)}
theorem SRd.kept (h : SRd w k a n c l) {row : Option Nat} (hg : w.grownBy w' row) (hne : row = none ∨ ∀ p, a = some p → some p.block ≠ row) : SRd w' k a n c l := by
  refine ⟨h.len, h.each, h.cap, h.max, fun i hi j hj => ?_⟩
  obtain ⟨b, o, rfl, hc⟩ := h.cel i hi j hj
  refine ⟨b, o, rfl, hg.cell hc ?_⟩
  rcases hne with rfl | hne
  · simp
  · exact hne ⟨b, o, none⟩ rfl
theorem SRd.keep (h : SRd w k a n c l) (hg : w.grownBy w' none) : SRd w' k a n c l := h.kept hg (.inl rfl)
theorem SRd.nil (w : World) (k : Nat) : SRd w k none 0 0 [] := ⟨rfl, by simp, Nat.le_refl _, by omega, fun i h => by simp at h⟩
/-- the cells of one element -/
theorem SRd.at (h : SRd w k a n c l) (hk : 0 < k) {i : Nat} (hi : i < l.length) : ∃ b o, a = some ⟨b, o, none⟩ ∧ ∀ j (hj : j < (l[i]).length), w.cell? ⟨b, o + i * k + j, none⟩ = some (l[i])[j] := by
  have hl := h.each l[i] (List.getElem_mem hi)
  obtain ⟨b, o, rfl, _⟩ := h.cel i hi 0 (by omega)
  refine ⟨b, o, rfl, fun j hj => ?_⟩
  obtain ⟨b', o', e, hc⟩ := h.cel i hi j hj
  cases e
  exact hc
end
end Nm

set_option linter.unusedVariables false
set_option linter.unusedSimpArgs false
namespace Nm
open Go Go.RowKit

/-- .slice a n c is nil, or the head of a row of the call's own, from block base on, whose first n elements of k cells are l -/
def SOwn (w : World) (base : Nat) (e : TypeId) (k : Nat) (a : Option Addr) (n c : Nat) (l : List (List Value)) : Prop :=
  l.length = n ∧ (∀ r ∈ l, r.length = k) ∧ w.ownsRow base e k (.slice a n c) n l.flatten

theorem flatten_get {k : Nat} : ∀ {l : List (List Value)} (h : ∀ r ∈ l, r.length = k) (i : Nat) (hi : i < l.length) (j : Nat) (hj : j < (l[i]).length), l.flatten[i * k + j]? = some (l[i])[j]
  | r :: l, h, 0, hi, j, hj => by
    simp only [List.getElem_cons_zero] at hj ⊢
    rw [List.flatten_cons, Nat.zero_mul, Nat.zero_add, List.getElem?_append_left hj]
    simp
  | r :: l, h, i + 1, hi, j, hj => by
    simp only [List.getElem_cons_succ] at hj ⊢
    have hr := h r (by simp)
    rw [List.flatten_cons, List.getElem?_append_right (by rw [hr, Nat.add_mul]; omega), hr]
    have ih := flatten_get (fun r hr => h r (by simp [hr])) i (by simpa using hi) j hj
    rw [show (i + 1) * k + j - k = i * k + j by rw [Nat.add_mul]; omega]
    exact ih

section
variable {w w' : World} {base : Nat} {e : TypeId} {k : Nat} {a : Option Addr} {n c : Nat} {l : List (List Value)}
theorem SOwn.nil (w : World) (base : Nat) (e : TypeId) (k : Nat) : SOwn w base e k none 0 0 [] := ⟨rfl, by simp, World.ownsRow_nil w base e k⟩
theorem SOwn.rd (h : SOwn w base e k a n c l) : SRd w k a n c l := by
  obtain ⟨hl, he, h1, h2 | ⟨g, cap, cur, hv, hb, hg, hn, hm, hs, ht⟩⟩ := h
  · obtain ⟨hv, rfl⟩ := h2
    simp only [Value.slice.injEq, true_and] at hv
    obtain ⟨rfl, rfl⟩ := hv
    obtain rfl : l = [] := List.eq_nil_of_length_eq_zero hl
    exact SRd.nil w k
  · simp only [Value.slice.injEq, true_and] at hv
    obtain ⟨rfl, rfl⟩ := hv
    refine ⟨hl, he, hn, by unfold maxLen at hm; omega, fun i hi j hj => ⟨g, 0, rfl, ?_⟩⟩
    have h3 := World.ownsRow.cells (w := w) (base := base) (e := e) (size := k) (v := .slice (some ⟨g, 0, none⟩) n c) (n := n) (xs := l.flatten) ⟨h1, .inr ⟨g, c, cur, rfl, hb, hg, hn, hm, hs, ht⟩⟩ (g := g) rfl (i * k + j) _ (flatten_get he i hi j hj)
    rw [add_addr] at h3
    rw [Nat.zero_add] at h3
    rw [Nat.zero_add]
    exact h3
theorem SOwn.lt (h : SOwn w base e k a n c l) : ∀ p, a = some p → base ≤ p.block ∧ p.block < w.heap.size := fun p hp => by
  subst hp
  exact h.2.2.lt p.block rfl
theorem SOwn.kept (h : SOwn w base e k a n c l) {row : Option Nat} (hg : w.grownBy w' row) (hne : row = none ∨ ∀ p, a = some p → some p.block ≠ row) : SOwn w' base e k a n c l := by
  refine ⟨h.1, h.2.1, h.2.2.kept hg ?_⟩
  cases a with
  | none => exact .inl rfl
  | some p =>
    rcases hne with rfl | hne
    · exact .inr (by simp [Value.ownBlock])
    · exact .inr (hne p rfl)
theorem SOwn.keep (h : SOwn w base e k a n c l) (hg : w.grownBy w' none) : SOwn w' base e k a n c l := h.kept hg (.inl rfl)
theorem SOwn.alloc (h : SOwn w base e k a n c l) (o : Obj) : SOwn (w.alloc o) base e k a n c l := ⟨h.1, h.2.1, h.2.2.alloc o⟩
end

section
variable {P : Program} {ops : Array Oper} {rest : List Oper} {o : Oper} {a : Act} {Q : Exit → Act → World → Prop}
end
end Nm

set_option linter.unusedVariables false
set_option linter.unusedSimpArgs false
namespace Nm
open Go Go.RowKit

/-- a number of kind k as a value -/
abbrev zv (k : IntKind) (n : Int) : Value := .int k n

/-- block g of w is an unfrozen row of numbers of kind k, of the element type e -/
def ZRow (w : World) (g : Nat) (e : TypeId) (k : IntKind) (xs : List Int) : Prop :=
  w.heap[g]? = some (.cells (xs.map (zv k)).toArray e (0, 0))

section
variable {w w' : World} {g : Nat} {e : TypeId} {k : IntKind} {xs : List Int}
theorem ZRow.lt (h : ZRow w g e k xs) : g < w.heap.size := lt_of_block h
theorem ZRow.cell (h : ZRow w g e k xs) (j : Nat) (hj : j < xs.length) : w.cell? ⟨g, j, none⟩ = some (.int k xs[j]) := by
  rw [cell_of_row w g j _ _ _ h]; simp [hj]
theorem ZRow.free (h : ZRow w g e k xs) (j : Nat) : w.frozen? ⟨g, j, none⟩ = false := frozen_of_row w g j _ _ h
theorem ZRow.set (h : ZRow w g e k xs) (j : Nat) (y : Int) : ZRow (w.setCell ⟨g, j, none⟩ (.int k y)) g e k (xs.set j y) := by
  unfold ZRow at h ⊢
  rw [heap_setCell_same w g j _ _ _ h]
  simp
theorem ZRow.setv (h : ZRow w g e k xs) (j : Nat) (v : Int) (y : Int) (hv : v = y) : ZRow (w.setCell ⟨g, j, none⟩ (.int k v)) g e k (xs.set j y) := by
  subst hv; exact h.set j _
theorem ZRow.kept (h : ZRow w g e k xs) {row : Option Nat} (hg : w.grownBy w' row) (hne : some g ≠ row) : ZRow w' g e k xs :=
  (hg.block g h.lt hne).trans h
theorem ZRow.made (w : World) (e : TypeId) (k : IntKind) (xs : List Int) : ZRow (w.alloc (.cells (xs.map (zv k)).toArray e)) w.heap.size e k xs := heap_alloc_new w _
theorem ZRow.drew (h : ZRow w g e k xs) : ZRow w.drew g e k xs := h
end

/-- the address a is the head of cells that read as xs -/
def ZCel (w : World) (k : IntKind) (a : Option Addr) (xs : List Int) : Prop :=
  ∀ j (h : j < xs.length), ∃ b o, a = some ⟨b, o, none⟩ ∧ w.cell? ⟨b, o + j, none⟩ = some (.int k xs[j])

/-- .slice a n c is a slice of numbers of kind k that reads as xs -/
structure ZRd (w : World) (k : IntKind) (a : Option Addr) (n c : Nat) (xs : List Int) : Prop where
  len : xs.length = n
  cap : n ≤ c
  max : c ≤ 9223372036854775807
  cel : ZCel w k a xs

section
variable {w w' : World} {k : IntKind} {a : Option Addr} {n c : Nat} {xs : List Int}
theorem ZRd.kept (h : ZRd w k a n c xs) {row : Option Nat} (hg : w.grownBy w' row) (hne : row = none ∨ ∀ p, a = some p → some p.block ≠ row) : ZRd w' k a n c xs := by
  refine ⟨h.len, h.cap, h.max, fun j hj => ?_⟩
  obtain ⟨b, o, rfl, hc⟩ := h.cel j hj
  refine ⟨b, o, rfl, hg.cell hc ?_⟩
  rcases hne with rfl | hne
  · simp
  · exact hne ⟨b, o, none⟩ rfl
theorem ZRd.keep (h : ZRd w k a n c xs) (hg : w.grownBy w' none) : ZRd w' k a n c xs := h.kept hg (.inl rfl)
theorem ZRd.drew (h : ZRd w k a n c xs) : ZRd w.drew k a n c xs := ⟨h.len, h.cap, h.max, h.cel⟩
theorem ZRd.nil (w : World) (k : IntKind) : ZRd w k none 0 0 [] := ⟨rfl, Nat.le_refl _, by omega, fun j h => by simp at h⟩
theorem ZRd.block (h : ZRd w k a n c xs) (hn : 0 < n) : ∃ b o, a = some ⟨b, o, none⟩ ∧ b < w.heap.size ∧ ∀ j (h : j < xs.length), w.cell? ⟨b, o + j, none⟩ = some (.int k xs[j]) := by
  obtain ⟨b, o, rfl, hc⟩ := h.cel 0 (by rw [h.len]; exact hn)
  refine ⟨b, o, rfl, World.block_lt_of_cell? _ _ hc, fun j hj => ?_⟩
  obtain ⟨b', o', e, hc'⟩ := h.cel j hj
  cases e; exact hc'
/-- the first m cells -/
theorem ZRd.take (h : ZRd w k a n c xs) (m : Nat) (hm : m ≤ n) : ZRd w k a m c (xs.take m) := by
  refine ⟨by rw [List.length_take, h.len]; omega, Nat.le_trans hm h.cap, h.max, fun j hj => ?_⟩
  have hj' : j < xs.length := by rw [List.length_take] at hj; omega
  obtain ⟨b, o, e, hc⟩ := h.cel j hj'
  exact ⟨b, o, e, by rw [hc]; simp⟩
/-- cells lo to hi -/
theorem ZRd.sub (h : ZRd w k a n c xs) (lo hi c' : Nat) (h1 : lo ≤ hi) (h2 : hi ≤ n) (hc' : hi - lo ≤ c') (hm : c' ≤ 9223372036854775807) (a' : Option Addr) (ha : lo < hi → a' = a.map (·.add lo)) :
    ZRd w k a' (hi - lo) c' ((xs.drop lo).take (hi - lo)) := by
  refine ⟨by rw [List.length_take, List.length_drop, h.len]; omega, hc', hm, fun j hj => ?_⟩
  rw [List.length_take, List.length_drop, h.len] at hj
  obtain ⟨b, o, e, hc⟩ := h.cel (lo + j) (by rw [h.len]; omega)
  have ha' := ha (by omega)
  subst e
  refine ⟨b, o + lo, ?_, ?_⟩
  · rw [ha']; simp only [Option.map_some, Option.some.injEq]; unfold Addr.add; split
    · rename_i h0; subst h0; rfl
    · rfl
  · rw [show o + lo + j = o + (lo + j) by omega, hc]; simp
end

theorem ZRd.cut {w : World} {k : IntKind} {b o n c : Nat} {xs : List Int} (h : ZRd w k (some ⟨b, o, none⟩) n c xs) (lo hi c' : Nat) (h1 : lo ≤ hi) (h2 : hi ≤ n) (hc' : hi - lo ≤ c') (hm : c' ≤ 9223372036854775807) :
    ZRd w k (some ⟨b, o + lo, none⟩) (hi - lo) c' ((xs.drop lo).take (hi - lo)) :=
  h.sub lo hi c' h1 h2 hc' hm _ fun _ => by rw [Option.map_some, add_addr]

/-- a row of one's own reads as its content, from any place on -/
theorem ZRow.rd {w : World} {g : Nat} {e : TypeId} {k : IntKind} {xs : List Int} (h : ZRow w g e k xs) (o n c : Nat) (hn : o + n ≤ xs.length) (hc : n ≤ c) (hm : c ≤ 9223372036854775807) :
    ZRd w k (some ⟨g, o, none⟩) n c ((xs.drop o).take n) := by
  have hl : ((xs.drop o).take n).length = n := by simp; omega
  refine ⟨hl, hc, hm, fun j hj => ⟨g, o, rfl, ?_⟩⟩
  rw [hl] at hj
  rw [h.cell (o + j) (by omega)]
  simp
theorem ZRow.rd0 {w : World} {g : Nat} {e : TypeId} {k : IntKind} {xs : List Int} (h : ZRow w g e k xs) (hm : xs.length ≤ 9223372036854775807) :
    ZRd w k (some ⟨g, 0, none⟩) xs.length xs.length xs := by
  have := h.rd 0 xs.length xs.length (by omega) (Nat.le_refl _) hm
  simpa using this

/-! ### make, copy, append on rows of numbers -/
section
variable {P : Program} {ops : Array Oper} {rest : List Oper} {o : Oper} {a : Act} {Q : Exit → Act → World → Prop}

end
/-- .slice a n c is nil, or the head of a row of the call's own, from block base on, whose first n cells are xs -/
def ZOwn (w : World) (base : Nat) (e : TypeId) (k : IntKind) (a : Option Addr) (n c : Nat) (xs : List Int) : Prop :=
  xs.length = n ∧ w.ownsRow base e 1 (.slice a n c) n (xs.map (zv k))

section
variable {w w' : World} {base : Nat} {e : TypeId} {k : IntKind} {a : Option Addr} {n c : Nat} {xs : List Int}
theorem ZOwn.nil (w : World) (base : Nat) (e : TypeId) (k : IntKind) : ZOwn w base e k none 0 0 [] := ⟨rfl, World.ownsRow_nil w base e 1⟩
theorem ZOwn.rd (h : ZOwn w base e k a n c xs) : ZRd w k a n c xs := by
  obtain ⟨hl, h1, h2 | ⟨g, cap, cur, hv, hb, hg, hn, hm, hs, ht⟩⟩ := h
  · obtain ⟨hv, rfl⟩ := h2
    simp only [Value.slice.injEq, true_and] at hv
    obtain ⟨rfl, rfl⟩ := hv
    obtain rfl : xs = [] := List.eq_nil_of_length_eq_zero hl
    exact ZRd.nil w k
  · simp only [Value.slice.injEq, true_and] at hv
    obtain ⟨rfl, rfl⟩ := hv
    refine ⟨hl, hn, by unfold maxLen at hm; omega, fun j hj => ⟨g, 0, rfl, ?_⟩⟩
    have h3 := World.ownsRow.cells (w := w) (base := base) (e := e) (size := 1) (v := .slice (some ⟨g, 0, none⟩) n c) (n := n) (xs := xs.map (zv k)) ⟨h1, .inr ⟨g, c, cur, rfl, hb, hg, hn, hm, hs, ht⟩⟩ (g := g) rfl j (zv k xs[j]) (by simp [hj])
    rw [add_addr] at h3
    exact h3
theorem ZOwn.lt (h : ZOwn w base e k a n c xs) : ∀ p, a = some p → base ≤ p.block ∧ p.block < w.heap.size := fun p hp => by
  subst hp
  exact h.2.lt p.block rfl
theorem ZOwn.kept (h : ZOwn w base e k a n c xs) {row : Option Nat} (hg : w.grownBy w' row) (hne : row = none ∨ ∀ p, a = some p → some p.block ≠ row) : ZOwn w' base e k a n c xs := by
  refine ⟨h.1, h.2.kept hg ?_⟩
  cases a with
  | none => exact .inl rfl
  | some p =>
    rcases hne with rfl | hne
    · exact .inr (by simp [Value.ownBlock])
    · exact .inr (hne p rfl)
theorem ZOwn.alloc (h : ZOwn w base e k a n c xs) (o : Obj) : ZOwn (w.alloc o) base e k a n c xs := ⟨h.1, h.2.alloc o⟩
theorem ZOwn.made (w : World) (base : Nat) (e : TypeId) (k : IntKind) (xs : List Int) (hb : base ≤ w.heap.size) (hm : xs.length ≤ 9223372036854775807) :
    ZOwn (w.alloc (.cells (xs.map (zv k)).toArray e)) base e k (some ⟨w.heap.size, 0, none⟩) xs.length xs.length xs :=
  ⟨rfl, by simpa using World.ownsRow_lit (base := base) (e := e) (size := 1) w (xs.map (zv k)).toArray xs.length hb (by unfold maxLen; omega) (by simp)⟩
theorem ZOwn.ofRow {g : Nat} (h : ZRow w g e k xs) (hb : base ≤ g) (hm : xs.length ≤ 9223372036854775807) : ZOwn w base e k (some ⟨g, 0, none⟩) xs.length xs.length xs :=
  ⟨rfl, by simp, .inr ⟨g, xs.length, (xs.map (zv k)).toArray, rfl, hb, h, Nat.le_refl _, by unfold maxLen; omega, by simp, by rw [List.take_of_length_le (by simp)]⟩⟩
end

section
variable {P : Program} {ops : Array Oper} {rest : List Oper} {o : Oper} {a : Act} {Q : Exit → Act → World → Prop}
end
end Nm

set_option linter.unusedVariables false
set_option linter.unusedSimpArgs false
namespace Nm
open Go Go.RowKit
/-- the fact Φ holds in every world that has this one's blocks, those of S apart -/
def Stay (w : World) (S : Nat → Prop) (Φ : World → Prop) : Prop := ∀ W : World, (∀ G O, w.heap[G]? = some O → ¬ S G → W.heap[G]? = some O) → Φ W
section
variable {w w' : World} {S S' : Nat → Prop} {Φ Ψ : World → Prop}
theorem Stay.out (h : Stay w S Φ) : Φ w := h w fun _ _ h _ => h
theorem Stay.imp (h : Stay w S Φ) (f : ∀ W, Φ W → Ψ W) : Stay w S Ψ := fun W hW => f W (h W hW)
theorem Stay.and (h : Stay w S Φ) (h2 : Stay w S Ψ) : Stay w S (fun W => Φ W ∧ Ψ W) := fun W hW => ⟨h W hW, h2 W hW⟩
theorem Stay.step (h : Stay w S Φ) (hs : ∀ G O, w.heap[G]? = some O → ¬ S G → w'.heap[G]? = some O ∧ ¬ S' G) : Stay w' S' Φ :=
  fun W hW => h W fun G O hG hS => hW G O (hs G O hG hS).1 (hs G O hG hS).2
theorem Stay.keep (h : Stay w S Φ) (hg : w.grownBy w' none) : Stay w' S Φ := h.step fun G O hG hS => ⟨(hg.block G (Array.getElem?_eq_some_iff.1 hG).1 (by simp)).trans hG, hS⟩
theorem Stay.kept (h : Stay w S Φ) {row : Option Nat} (hg : w.grownBy w' row) (hr : ∀ g, row = some g → S g) : Stay w' S Φ :=
  h.step fun G O hG hS => ⟨(hg.block G (Array.getElem?_eq_some_iff.1 hG).1 (fun e => hS (hr G e.symm))).trans hG, hS⟩
theorem Stay.less (h : Stay w S Φ) (hs : ∀ g, g < w.heap.size → S' g → S g) : Stay w S' Φ := h.step fun G O hG hS => ⟨hG, fun h2 => hS (hs G (Array.getElem?_eq_some_iff.1 hG).1 h2)⟩
theorem Stay.true (w : World) (S : Nat → Prop) (p : Prop) (h : p) : Stay w S (fun _ => p) := fun _ _ => h
theorem Stay.cell {a : Addr} {v : Value} (h : w.cell? a = some v) (hs : ¬ S a.block) : Stay w S (fun W => W.cell? a = some v) := fun W hW => by
  have hlt := World.block_lt_of_cell? w a h
  exact (World.cell?_of_block ((hW a.block _ (Array.getElem?_eq_getElem hlt) hs).trans (Array.getElem?_eq_getElem hlt).symm)).trans h
theorem Stay.ird {k : IntKind} {a : Option Addr} {n c : Nat} {xs : List Nat} (h : IRd w k a n c xs) (hs : ∀ p, a = some p → 0 < n → ¬ S p.block) : Stay w S (fun W => IRd W k a n c xs) := fun W hW =>
  ⟨h.len, h.cap, h.max, fun i hi => by
    obtain ⟨b, o, rfl, hc⟩ := h.cel i hi
    exact ⟨b, o, rfl, Stay.cell hc (show ¬ S b from hs ⟨b, o, none⟩ rfl (by have := h.len; omega)) W hW⟩⟩
theorem Stay.zrd {k : IntKind} {a : Option Addr} {n c : Nat} {xs : List Int} (h : ZRd w k a n c xs) (hs : ∀ p, a = some p → 0 < n → ¬ S p.block) : Stay w S (fun W => ZRd W k a n c xs) := fun W hW =>
  ⟨h.len, h.cap, h.max, fun i hi => by
    obtain ⟨b, o, rfl, hc⟩ := h.cel i hi
    exact ⟨b, o, rfl, Stay.cell hc (show ¬ S b from hs ⟨b, o, none⟩ rfl (by have := h.len; omega)) W hW⟩⟩
theorem IRd.agree {w W : World} {k : IntKind} {a : Option Addr} {n c : Nat} {xs : List Nat} (h : IRd w k a n c xs) (hW : ∀ G, G < w.heap.size → W.heap[G]? = w.heap[G]?) : IRd W k a n c xs :=
  ⟨h.len, h.cap, h.max, fun i hi => by
    obtain ⟨b, o, rfl, hc⟩ := h.cel i hi
    exact ⟨b, o, rfl, (World.cell?_of_block (hW b (World.block_lt_of_cell? w _ hc))).trans hc⟩⟩
theorem ZRd.agree {w W : World} {k : IntKind} {a : Option Addr} {n c : Nat} {xs : List Int} (h : ZRd w k a n c xs) (hW : ∀ G, G < w.heap.size → W.heap[G]? = w.heap[G]?) : ZRd W k a n c xs :=
  ⟨h.len, h.cap, h.max, fun i hi => by
    obtain ⟨b, o, rfl, hc⟩ := h.cel i hi
    exact ⟨b, o, rfl, (World.cell?_of_block (hW b (World.block_lt_of_cell? w _ hc))).trans hc⟩⟩
/-- a slice of numbers that is not empty does not lie in a block whose cells are no numbers -/
theorem IRd.notIn {w : World} {k : IntKind} {a : Option Addr} {n c : Nat} {xs : List Nat} (h : IRd w k a n c xs) {G : Nat} {cs : Array Value} {T : TypeId} {z : Nat × Nat} (hb : w.heap[G]? = some (.cells cs T z)) (hc : ∀ v ∈ cs, ∀ x, v ≠ .int k x) : ∀ p, a = some p → 0 < n → p.block ≠ G := by
  rintro p rfl hn rfl
  obtain ⟨b, o, e, hcell⟩ := h.cel 0 (by have := h.len; omega)
  cases e
  unfold World.cell? at hcell
  rw [hb] at hcell
  simp only [Nat.add_zero] at hcell
  exact hc _ (Array.mem_of_getElem? hcell) _ rfl
theorem ZRd.notIn {w : World} {k : IntKind} {a : Option Addr} {n c : Nat} {xs : List Int} (h : ZRd w k a n c xs) {G : Nat} {cs : Array Value} {T : TypeId} {z : Nat × Nat} (hb : w.heap[G]? = some (.cells cs T z)) (hc : ∀ v ∈ cs, ∀ x, v ≠ .int k x) : ∀ p, a = some p → 0 < n → p.block ≠ G := by
  rintro p rfl hn rfl
  obtain ⟨b, o, e, hcell⟩ := h.cel 0 (by have := h.len; omega)
  cases e
  unfold World.cell? at hcell
  rw [hb] at hcell
  simp only [Nat.add_zero] at hcell
  exact hc _ (Array.mem_of_getElem? hcell) _ rfl
end
end Nm

set_option linter.unusedVariables false
set_option linter.unusedSimpArgs false
namespace Nm
open Go Go.RowKit
/-- no number -/
def NoInt (v : Value) : Prop := ∀ k x, v ≠ .int k x
theorem NoInt.bool (b : Bool) : NoInt (.bool b) := fun k x h => by cases h
theorem NoInt.slice (p : Option Addr) (n c : Nat) : NoInt (.slice p n c) := fun k x h => by cases h
theorem flatten_len {k : Nat} : ∀ {l : List (List Value)}, (∀ r ∈ l, r.length = k) → l.flatten.length = l.length * k
  | [], _ => by simp
  | r :: l, h => by
    rw [List.flatten_cons, List.length_append, flatten_len (fun r hr => h r (by simp [hr])), h r (by simp), List.length_cons, Nat.add_mul]
    omega
/-- .slice p n c is nil, or the head of a row of the call's own, from block base on, whose first n elements of k cells are l, and that holds no numbers -/
structure QOwn (w : World) (base : Nat) (e : TypeId) (k : Nat) (p : Option Addr) (n c : Nat) (l : List (List Value)) : Prop where
  len : l.length = n
  each : ∀ r ∈ l, r.length = k
  cap : n ≤ c
  own : (p = none ∧ c = 0) ∨ ∃ (g : Nat) (cur : Array Value), p = some ⟨g, 0, none⟩ ∧ base ≤ g ∧ w.heap[g]? = some (.cells cur e (0, 0)) ∧ c ≤ maxLen ∧ cur.size = c * k ∧ cur.toList.take (n * k) = l.flatten ∧ ∀ v ∈ cur, NoInt v
section
variable {w w' : World} {base : Nat} {e : TypeId} {k : Nat} {p : Option Addr} {n c : Nat} {l : List (List Value)}
theorem QOwn.nil (w : World) (base : Nat) (e : TypeId) (k : Nat) : QOwn w base e k none 0 0 [] := ⟨rfl, by simp, Nat.le_refl _, .inl ⟨rfl, rfl⟩⟩
theorem QOwn.lt (h : QOwn w base e k p n c l) : ∀ a, p = some a → base ≤ a.block ∧ a.block < w.heap.size := fun a ha => by
  rcases h.own with ⟨h1, _⟩ | ⟨g, cur, h1, h2, h3, _⟩
  · rw [h1] at ha; cases ha
  · rw [h1] at ha
    cases ha
    exact ⟨h2, lt_of_block h3⟩
theorem QOwn.kept (h : QOwn w base e k p n c l) {row : Option Nat} (hg : w.grownBy w' row) (hne : row = none ∨ ∀ a, p = some a → some a.block ≠ row) : QOwn w' base e k p n c l := by
  refine ⟨h.len, h.each, h.cap, ?_⟩
  rcases h.own with h1 | ⟨g, cur, rfl, h2, h3, h4⟩
  · exact .inl h1
  · refine .inr ⟨g, cur, rfl, h2, (hg.block g (lt_of_block h3) ?_).trans h3, h4⟩
    rcases hne with rfl | hne
    · simp
    · exact hne _ rfl
theorem QOwn.keep (h : QOwn w base e k p n c l) (hg : w.grownBy w' none) : QOwn w' base e k p n c l := h.kept hg (.inl rfl)
theorem QOwn.max (h : QOwn w base e k p n c l) : c ≤ 9223372036854775807 := by
  rcases h.own with ⟨_, h1⟩ | ⟨g, cur, _, _, _, h4, _⟩
  · omega
  · unfold maxLen at h4; omega
theorem QOwn.flat (h : QOwn w base e k p n c l) : l.flatten.length = n * k := by rw [flatten_len h.each, h.len]
theorem QOwn.cells (h : QOwn w base e k p n c l) {g : Nat} (hp : p = some ⟨g, 0, none⟩) (j : Nat) (u : Value) (hu : l.flatten[j]? = some u) : w.cell? ⟨g, j, none⟩ = some u := by
  rcases h.own with ⟨h1, _⟩ | ⟨g', cur, h1, h2, h3, h4, h5, h6, _⟩
  · rw [h1] at hp; cases hp
  · rw [h1] at hp
    cases hp
    rw [cell_of_row w g j cur e (0, 0) h3]
    rw [← h6, List.getElem?_take] at hu
    split at hu
    · simpa using hu
    · cases hu
theorem QOwn.rd (h : QOwn w base e k p n c l) : SRd w k p n c l := by
  refine ⟨h.len, h.each, h.cap, h.max, fun i hi j hj => ?_⟩
  rcases h.own with ⟨h1, h2⟩ | ⟨g, cur, h1, _⟩
  · have := h.len; have := h.cap; omega
  · refine ⟨g, 0, h1, ?_⟩
    rw [Nat.zero_add]
    exact h.cells h1 _ _ (flatten_get h.each i hi j hj)
/-- no number lies in the row's block -/
theorem QOwn.noInt (h : QOwn w base e k p n c l) {g : Nat} (hp : p.map (·.block) = some g) : ∃ cur : Array Value, w.heap[g]? = some (.cells cur e (0, 0)) ∧ ∀ v ∈ cur, NoInt v := by
  rcases h.own with ⟨h1, _⟩ | ⟨g', cur, h1, _, h3, _, _, _, h7⟩
  · rw [h1] at hp; simp at hp
  · rw [h1] at hp
    simp at hp
    subst hp
    exact ⟨cur, h3, h7⟩
theorem QOwn.ird (h : QOwn w base e k p n c l) {kd : IntKind} {a : Option Addr} {m d : Nat} {xs : List Nat} (hr : IRd w kd a m d xs) : ∀ x, a = some x → 0 < m → ¬ p.map (·.block) = some x.block := fun x hx hm hp => by
  obtain ⟨cur, h1, h2⟩ := h.noInt hp
  exact hr.notIn h1 (fun v hv y => h2 v hv kd y) x hx hm rfl
theorem QOwn.zrd (h : QOwn w base e k p n c l) {kd : IntKind} {a : Option Addr} {m d : Nat} {xs : List Int} (hr : ZRd w kd a m d xs) : ∀ x, a = some x → 0 < m → ¬ p.map (·.block) = some x.block := fun x hx hm hp => by
  obtain ⟨cur, h1, h2⟩ := h.noInt hp
  exact hr.notIn h1 (fun v hv y => h2 v hv kd y) x hx hm rfl
end
theorem SRd.flat {w : World} {k : Nat} {b o m c : Nat} {rs : List (List Value)} (h : SRd w k (some ⟨b, o, none⟩) m c rs) (hk : 0 < k) (j : Nat) (u : Value) (hu : rs.flatten[j]? = some u) : w.cell? ⟨b, o + j, none⟩ = some u := by
  obtain ⟨hj, _⟩ := List.getElem?_eq_some_iff.1 hu
  rw [flatten_len h.each] at hj
  have hi : j / k < rs.length := Nat.div_lt_of_lt_mul (by rw [Nat.mul_comm]; exact hj)
  have hr : j % k < (rs[j / k]).length := by rw [h.each _ (List.getElem_mem hi)]; exact Nat.mod_lt _ hk
  have hd : j / k * k + j % k = j := Nat.div_add_mod' j k
  have h1 := flatten_get h.each (j / k) hi (j % k) hr
  rw [hd, hu] at h1
  obtain ⟨b', o', e, hc⟩ := h.cel (j / k) hi (j % k) hr
  cases e
  rw [Nat.add_assoc, hd] at hc
  rw [hc]
  exact h1.symm
section
variable {P : Program}
variable {ops : Array Oper} {o : Oper} {a : Act}
end
end Nm

set_option linter.unusedVariables false
set_option linter.unusedSimpArgs false
namespace Nm
open Go Go.RowKit
section
variable {P : Program} {ops : Array Oper} {o : Oper} {a : Act}
end
end Nm

set_option linter.unusedVariables false
set_option linter.unusedSimpArgs false
namespace Nm
open Go Go.RowKit

section
variable {w : World} {G : Nat} {x y z u : Value} {T : TypeId}
end
end Nm

set_option linter.unusedVariables false
set_option linter.unusedSimpArgs false
namespace Go.Proofs.YtknmdmofmcfjhaaGreatDoor
open Go.RowKit Nm

end Go.Proofs.YtknmdmofmcfjhaaGreatDoor

set_option linter.unusedVariables false
set_option linter.unusedSimpArgs false
namespace Go.Proofs.YtknmdmofmcfjhaaGreatDoor
open Go.RowKit Nm

def okE (x : Int) : Prop := 0 ≤ x ∧ x ≤ 1048576
instance (x : Int) : Decidable (okE x) := by unfold okE; exact inferInstance
end Go.Proofs.YtknmdmofmcfjhaaGreatDoor

set_option linter.unusedVariables false
set_option linter.unusedSimpArgs false
namespace Go.Proofs.YtknmdmofmcfjhaaGreatDoor
open Go.RowKit Nm

end Go.Proofs.YtknmdmofmcfjhaaGreatDoor

set_option linter.unusedVariables false
set_option linter.unusedSimpArgs false
namespace Go.Proofs.YtknmdmofmcfjhaaGreatDoor
open Go.RowKit Nm

def cop (xs ys : List Int) : Prop := ∀ i, ex xs i = 0 ∨ ex ys i = 0
theorem cop_iff {xs ys : List Int} : cop xs ys ↔ ∀ j, j < xs.length → (ex xs j = 0 ∨ ex ys j = 0) := by
  refine ⟨fun h j _ => h j, fun h i => ?_⟩
  rcases Nat.lt_or_ge i xs.length with hi | hi
  · exact h i hi
  · exact .inl (ex_ge hi)
instance (xs ys : List Int) : Decidable (cop xs ys) := decidable_of_iff (∀ j, j < xs.length → (ex xs j = 0 ∨ ex ys j = 0)) cop_iff.symm
end Go.Proofs.YtknmdmofmcfjhaaGreatDoor

set_option linter.unusedVariables false
set_option linter.unusedSimpArgs false
namespace Go.Proofs.YtknmdmofmcfjhaaGreatDoor
open Go.RowKit Nm

end Go.Proofs.YtknmdmofmcfjhaaGreatDoor

set_option linter.unusedVariables false
set_option linter.unusedSimpArgs false
namespace Go.Proofs.YtknmdmofmcfjhaaGreatDoor
open Go.RowKit Nm

end Go.Proofs.YtknmdmofmcfjhaaGreatDoor

set_option linter.unusedVariables false
set_option linter.unusedSimpArgs false
namespace Go.Proofs.YtknmdmofmcfjhaaGreatDoor
open Go.RowKit Nm

end Go.Proofs.YtknmdmofmcfjhaaGreatDoor
