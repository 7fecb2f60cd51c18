/-
  SRow SOwn ZMem Stay QOwn SStep Box4 MonoB MonoC MonoD MonoE MonoF MonoG MonoH, in one text.
-/
import Derived.Test.YtknmdmofmcfjhaaGreatDoorMem
import Derived.Test.YtknmdmofmcfjhaaGreatDoorOwn
import Derived.Laws.AppendOwn
import Derived.Laws.MakeOwn
import Derived.Maps.AppendAt
import Derived.Test.YtknmdmofmcfjhaaGreatDoorProg
import Derived.Test.YtknmdmofmcfjhaaGreatDoorMonoA
import Derived.Outline
import Derived.Lib.MinMax
import Derived.Deep.RegionHeld3
import Derived.Deep.AppendLies
import Derived.Lib.SliceRun

set_option linter.unusedVariables false
set_option linter.unusedSimpArgs false
namespace Nm
open Go Go.RowKit

/-- the address a is the head of elements of k cells that read as l -/
def SCel (w : World) (k : Nat) (a : Option Addr) (l : List (List Value)) : Prop :=
  ∀ i (h : i < l.length) j (hj : j < (l[i]).length), ∃ b o, a = some ⟨b, o, none⟩ ∧ w.cell? ⟨b, o + i * k + j, none⟩ = some (l[i])[j]
/-- .slice a n c is a slice of structs of k cells that reads as l -/
structure SRd (w : World) (k : Nat) (a : Option Addr) (n c : Nat) (l : List (List Value)) : Prop where
  len : l.length = n
  each : ∀ r ∈ l, r.length = k
  cap : n ≤ c
  max : c ≤ 9223372036854775807
  cel : SCel w k a l
section
variable {w w' : World} {k : Nat} {a : Option Addr} {n c : Nat} {l : List (List Value)}
theorem SRd.kept (h : SRd w k a n c l) {row : Option Nat} (hg : w.grownBy w' row) (hne : row = none ∨ ∀ p, a = some p → some p.block ≠ row) : SRd w' k a n c l := by
  refine ⟨h.len, h.each, h.cap, h.max, fun i hi j hj => ?_⟩
  obtain ⟨b, o, rfl, hc⟩ := h.cel i hi j hj
  refine ⟨b, o, rfl, hg.cell hc ?_⟩
  rcases hne with rfl | hne
  · simp
  · exact hne ⟨b, o, none⟩ rfl
theorem SRd.keep (h : SRd w k a n c l) (hg : w.grownBy w' none) : SRd w' k a n c l := h.kept hg (.inl rfl)
theorem SRd.nil (w : World) (k : Nat) : SRd w k none 0 0 [] := ⟨rfl, by simp, Nat.le_refl _, by omega, fun i h => by simp at h⟩
/-- the cells of one element -/
theorem SRd.at (h : SRd w k a n c l) (hk : 0 < k) {i : Nat} (hi : i < l.length) : ∃ b o, a = some ⟨b, o, none⟩ ∧ ∀ j (hj : j < (l[i]).length), w.cell? ⟨b, o + i * k + j, none⟩ = some (l[i])[j] := by
  have hl := h.each l[i] (List.getElem_mem hi)
  obtain ⟨b, o, rfl, _⟩ := h.cel i hi 0 (by omega)
  refine ⟨b, o, rfl, fun j hj => ?_⟩
  obtain ⟨b', o', e, hc⟩ := h.cel i hi j hj
  cases e
  exact hc
end
end Nm

set_option linter.unusedVariables false
set_option linter.unusedSimpArgs false
namespace Nm
open Go Go.RowKit

/-- .slice a n c is nil, or the head of a row of the call's own, from block base on, whose first n elements of k cells are l -/
def SOwn (w : World) (base : Nat) (e : TypeId) (k : Nat) (a : Option Addr) (n c : Nat) (l : List (List Value)) : Prop :=
  l.length = n ∧ (∀ r ∈ l, r.length = k) ∧ w.ownsRow base e k (.slice a n c) n l.flatten

theorem flatten_get {k : Nat} : ∀ {l : List (List Value)} (h : ∀ r ∈ l, r.length = k) (i : Nat) (hi : i < l.length) (j : Nat) (hj : j < (l[i]).length), l.flatten[i * k + j]? = some (l[i])[j]
  | r :: l, h, 0, hi, j, hj => by
    simp only [List.getElem_cons_zero] at hj ⊢
    rw [List.flatten_cons, Nat.zero_mul, Nat.zero_add, List.getElem?_append_left hj]
    simp
  | r :: l, h, i + 1, hi, j, hj => by
    simp only [List.getElem_cons_succ] at hj ⊢
    have hr := h r (by simp)
    rw [List.flatten_cons, List.getElem?_append_right (by rw [hr, Nat.add_mul]; omega), hr]
    have ih := flatten_get (fun r hr => h r (by simp [hr])) i (by simpa using hi) j hj
    rw [show (i + 1) * k + j - k = i * k + j by rw [Nat.add_mul]; omega]
    exact ih

section
variable {w w' : World} {base : Nat} {e : TypeId} {k : Nat} {a : Option Addr} {n c : Nat} {l : List (List Value)}
theorem SOwn.nil (w : World) (base : Nat) (e : TypeId) (k : Nat) : SOwn w base e k none 0 0 [] := ⟨rfl, by simp, World.ownsRow_nil w base e k⟩
theorem SOwn.rd (h : SOwn w base e k a n c l) : SRd w k a n c l := by
  obtain ⟨hl, he, h1, h2 | ⟨g, cap, cur, hv, hb, hg, hn, hm, hs, ht⟩⟩ := h
  · obtain ⟨hv, rfl⟩ := h2
    simp only [Value.slice.injEq, true_and] at hv
    obtain ⟨rfl, rfl⟩ := hv
    obtain rfl : l = [] := List.eq_nil_of_length_eq_zero hl
    exact SRd.nil w k
  · simp only [Value.slice.injEq, true_and] at hv
    obtain ⟨rfl, rfl⟩ := hv
    refine ⟨hl, he, hn, by unfold maxLen at hm; omega, fun i hi j hj => ⟨g, 0, rfl, ?_⟩⟩
    have h3 := World.ownsRow.cells (w := w) (base := base) (e := e) (size := k) (v := .slice (some ⟨g, 0, none⟩) n c) (n := n) (xs := l.flatten) ⟨h1, .inr ⟨g, c, cur, rfl, hb, hg, hn, hm, hs, ht⟩⟩ (g := g) rfl (i * k + j) _ (flatten_get he i hi j hj)
    rw [add_addr] at h3
    rw [Nat.zero_add] at h3
    rw [Nat.zero_add]
    exact h3
theorem SOwn.lt (h : SOwn w base e k a n c l) : ∀ p, a = some p → base ≤ p.block ∧ p.block < w.heap.size := fun p hp => by
  subst hp
  exact h.2.2.lt p.block rfl
theorem SOwn.kept (h : SOwn w base e k a n c l) {row : Option Nat} (hg : w.grownBy w' row) (hne : row = none ∨ ∀ p, a = some p → some p.block ≠ row) : SOwn w' base e k a n c l := by
  refine ⟨h.1, h.2.1, h.2.2.kept hg ?_⟩
  cases a with
  | none => exact .inl rfl
  | some p =>
    rcases hne with rfl | hne
    · exact .inr (by simp [Value.ownBlock])
    · exact .inr (hne p rfl)
theorem SOwn.keep (h : SOwn w base e k a n c l) (hg : w.grownBy w' none) : SOwn w' base e k a n c l := h.kept hg (.inl rfl)
theorem SOwn.alloc (h : SOwn w base e k a n c l) (o : Obj) : SOwn (w.alloc o) base e k a n c l := ⟨h.1, h.2.1, h.2.2.alloc o⟩
end

/-- a new slice of one struct -/
theorem one_srd (w : World) (e : TypeId) (k : Nat) (r : List Value) (hr : r.length = k) (b : Nat) (hb : b = w.heap.size) : SRd (w.alloc (.cells r.toArray e)) k (some ⟨b, 0, none⟩) 1 1 [r] := by
  subst hb
  refine ⟨rfl, by simpa using hr, Nat.le_refl _, by omega, fun i hi j hj => ⟨w.heap.size, 0, rfl, ?_⟩⟩
  simp only [List.length_cons, List.length_nil, Nat.zero_add, Nat.lt_one_iff] at hi
  subst hi
  simp only [List.getElem_cons_zero] at hj ⊢
  rw [cell_of_row _ w.heap.size (0 + 0 * k + j) _ _ _ (heap_alloc_new w _)]
  simp [hj]

section
variable {P : Program} {ops : Array Oper} {rest : List Oper} {o : Oper} {a : Act} {Q : Exit → Act → World → Prop}
end
end Nm

set_option linter.unusedVariables false
set_option linter.unusedSimpArgs false
namespace Nm
open Go Go.RowKit

/-- a number of kind k as a value -/
abbrev zv (k : IntKind) (n : Int) : Value := .int k n

/-- block g of w is an unfrozen row of numbers of kind k, of the element type e -/
def ZRow (w : World) (g : Nat) (e : TypeId) (k : IntKind) (xs : List Int) : Prop :=
  w.heap[g]? = some (.cells (xs.map (zv k)).toArray e (0, 0))

section
variable {w w' : World} {g : Nat} {e : TypeId} {k : IntKind} {xs : List Int}
theorem ZRow.lt (h : ZRow w g e k xs) : g < w.heap.size := lt_of_block h
theorem ZRow.cell (h : ZRow w g e k xs) (j : Nat) (hj : j < xs.length) : w.cell? ⟨g, j, none⟩ = some (.int k xs[j]) := by
  rw [cell_of_row w g j _ _ _ h]; simp [hj]
theorem ZRow.free (h : ZRow w g e k xs) (j : Nat) : w.frozen? ⟨g, j, none⟩ = false := frozen_of_row w g j _ _ h
theorem ZRow.set (h : ZRow w g e k xs) (j : Nat) (y : Int) : ZRow (w.setCell ⟨g, j, none⟩ (.int k y)) g e k (xs.set j y) := by
  unfold ZRow at h ⊢
  rw [heap_setCell_same w g j _ _ _ h]
  simp
theorem ZRow.setv (h : ZRow w g e k xs) (j : Nat) (v : Int) (y : Int) (hv : v = y) : ZRow (w.setCell ⟨g, j, none⟩ (.int k v)) g e k (xs.set j y) := by
  subst hv; exact h.set j _
theorem ZRow.kept (h : ZRow w g e k xs) {row : Option Nat} (hg : w.grownBy w' row) (hne : some g ≠ row) : ZRow w' g e k xs :=
  (hg.block g h.lt hne).trans h
theorem ZRow.made (w : World) (e : TypeId) (k : IntKind) (xs : List Int) : ZRow (w.alloc (.cells (xs.map (zv k)).toArray e)) w.heap.size e k xs := heap_alloc_new w _
theorem ZRow.drew (h : ZRow w g e k xs) : ZRow w.drew g e k xs := h
end

/-- the address a is the head of cells that read as xs -/
def ZCel (w : World) (k : IntKind) (a : Option Addr) (xs : List Int) : Prop :=
  ∀ j (h : j < xs.length), ∃ b o, a = some ⟨b, o, none⟩ ∧ w.cell? ⟨b, o + j, none⟩ = some (.int k xs[j])

/-- .slice a n c is a slice of numbers of kind k that reads as xs -/
structure ZRd (w : World) (k : IntKind) (a : Option Addr) (n c : Nat) (xs : List Int) : Prop where
  len : xs.length = n
  cap : n ≤ c
  max : c ≤ 9223372036854775807
  cel : ZCel w k a xs

section
variable {w w' : World} {k : IntKind} {a : Option Addr} {n c : Nat} {xs : List Int}
theorem ZRd.kept (h : ZRd w k a n c xs) {row : Option Nat} (hg : w.grownBy w' row) (hne : row = none ∨ ∀ p, a = some p → some p.block ≠ row) : ZRd w' k a n c xs := by
  refine ⟨h.len, h.cap, h.max, fun j hj => ?_⟩
  obtain ⟨b, o, rfl, hc⟩ := h.cel j hj
  refine ⟨b, o, rfl, hg.cell hc ?_⟩
  rcases hne with rfl | hne
  · simp
  · exact hne ⟨b, o, none⟩ rfl
theorem ZRd.keep (h : ZRd w k a n c xs) (hg : w.grownBy w' none) : ZRd w' k a n c xs := h.kept hg (.inl rfl)
theorem ZRd.drew (h : ZRd w k a n c xs) : ZRd w.drew k a n c xs := ⟨h.len, h.cap, h.max, h.cel⟩
theorem ZRd.nil (w : World) (k : IntKind) : ZRd w k none 0 0 [] := ⟨rfl, Nat.le_refl _, by omega, fun j h => by simp at h⟩
theorem ZRd.block (h : ZRd w k a n c xs) (hn : 0 < n) : ∃ b o, a = some ⟨b, o, none⟩ ∧ b < w.heap.size ∧ ∀ j (h : j < xs.length), w.cell? ⟨b, o + j, none⟩ = some (.int k xs[j]) := by
  obtain ⟨b, o, rfl, hc⟩ := h.cel 0 (by rw [h.len]; exact hn)
  refine ⟨b, o, rfl, World.block_lt_of_cell? _ _ hc, fun j hj => ?_⟩
  obtain ⟨b', o', e, hc'⟩ := h.cel j hj
  cases e; exact hc'
/-- the first m cells -/
theorem ZRd.take (h : ZRd w k a n c xs) (m : Nat) (hm : m ≤ n) : ZRd w k a m c (xs.take m) := by
  refine ⟨by rw [List.length_take, h.len]; omega, Nat.le_trans hm h.cap, h.max, fun j hj => ?_⟩
  have hj' : j < xs.length := by rw [List.length_take] at hj; omega
  obtain ⟨b, o, e, hc⟩ := h.cel j hj'
  exact ⟨b, o, e, by rw [hc]; simp⟩
/-- cells lo to hi -/
theorem ZRd.sub (h : ZRd w k a n c xs) (lo hi c' : Nat) (h1 : lo ≤ hi) (h2 : hi ≤ n) (hc' : hi - lo ≤ c') (hm : c' ≤ 9223372036854775807) (a' : Option Addr) (ha : lo < hi → a' = a.map (·.add lo)) :
    ZRd w k a' (hi - lo) c' ((xs.drop lo).take (hi - lo)) := by
  refine ⟨by rw [List.length_take, List.length_drop, h.len]; omega, hc', hm, fun j hj => ?_⟩
  rw [List.length_take, List.length_drop, h.len] at hj
  obtain ⟨b, o, e, hc⟩ := h.cel (lo + j) (by rw [h.len]; omega)
  have ha' := ha (by omega)
  subst e
  refine ⟨b, o + lo, ?_, ?_⟩
  · rw [ha']; simp only [Option.map_some, Option.some.injEq]; unfold Addr.add; split
    · rename_i h0; subst h0; rfl
    · rfl
  · rw [show o + lo + j = o + (lo + j) by omega, hc]; simp
end

theorem ZRd.cut {w : World} {k : IntKind} {b o n c : Nat} {xs : List Int} (h : ZRd w k (some ⟨b, o, none⟩) n c xs) (lo hi c' : Nat) (h1 : lo ≤ hi) (h2 : hi ≤ n) (hc' : hi - lo ≤ c') (hm : c' ≤ 9223372036854775807) :
    ZRd w k (some ⟨b, o + lo, none⟩) (hi - lo) c' ((xs.drop lo).take (hi - lo)) :=
  h.sub lo hi c' h1 h2 hc' hm _ fun _ => by rw [Option.map_some, add_addr]

/-- a row of one's own reads as its content, from any place on -/
theorem ZRow.rd {w : World} {g : Nat} {e : TypeId} {k : IntKind} {xs : List Int} (h : ZRow w g e k xs) (o n c : Nat) (hn : o + n ≤ xs.length) (hc : n ≤ c) (hm : c ≤ 9223372036854775807) :
    ZRd w k (some ⟨g, o, none⟩) n c ((xs.drop o).take n) := by
  have hl : ((xs.drop o).take n).length = n := by simp; omega
  refine ⟨hl, hc, hm, fun j hj => ⟨g, o, rfl, ?_⟩⟩
  rw [hl] at hj
  rw [h.cell (o + j) (by omega)]
  simp
theorem ZRow.rd0 {w : World} {g : Nat} {e : TypeId} {k : IntKind} {xs : List Int} (h : ZRow w g e k xs) (hm : xs.length ≤ 9223372036854775807) :
    ZRd w k (some ⟨g, 0, none⟩) xs.length xs.length xs := by
  have := h.rd 0 xs.length xs.length (by omega) (Nat.le_refl _) hm
  simpa using this

/-! ### make, copy, append on rows of numbers -/
section
variable {P : Program} {ops : Array Oper} {rest : List Oper} {o : Oper} {a : Act} {Q : Exit → Act → World → Prop}

theorem wz_make (w : World) (hg : o.guard = none) (l c : Operand) (t : TypeId) (hop : o.op = Op.makeSlice t l c)
    (e : TypeId) (k : IntKind) (bytes : Nat) (h1 : P.underlying t = some (.slice e)) (h2 : (P.info? e).map (fun i => (i.zero, i.size, i.bytes)) = some (some (.int k 0), 1, bytes))
    (kl kc : IntKind) (L C : Int) (hl : a.eval l = .int kl L) (hc : a.eval c = .int kc C) (n : Nat) (hL : L = (n : Int)) (hC : C = (n : Int)) (b2 : bytes * n ≤ 281474976710656) (b3 : n ≤ 9223372036854775807)
    (hK : ∀ w', ZRow w' w.heap.size e k (List.replicate n 0) → w.grownBy w' none → wpList P ops Q rest (a.put o.dst (.slice (some ⟨w.heap.size, 0, none⟩) n n)) w') :
    wpList P ops Q (o :: rest) a w := by
  obtain ⟨i, hi, hz0, hz1, hz2⟩ := info_parts h2
  subst hz2
  refine wpList_make_full w hg l c t hop w.heap.size e i (.int k 0) 1 h1 hi hz0 hz1 kl kc L C n hl hc hL hC b2 (by unfold maxLen; omega) (Nat.le_refl _) fun w' ho hgr => hK w' ?_ hgr
  obtain ⟨_, h | ⟨g, cap, cur, hv, _, hh, _, _, hs, ht⟩⟩ := ho
  · simp at h
  · simp only [Value.slice.injEq, Option.some.injEq, Addr.mk.injEq, and_true, true_and] at hv
    obtain ⟨rfl, rfl⟩ := hv
    unfold ZRow
    rw [hh]
    have e1 : cur.toList = List.replicate n (.int k 0) := by
      rw [Nat.mul_one] at hs ht
      rw [List.take_of_length_le (by simp [hs])] at ht
      rw [ht]; exact toList_madeCells_one _ _
    have e2 : cur = (List.replicate n (Value.int k 0)).toArray := by rw [← e1]
    rw [e2]; simp

end
/-- .slice a n c is nil, or the head of a row of the call's own, from block base on, whose first n cells are xs -/
def ZOwn (w : World) (base : Nat) (e : TypeId) (k : IntKind) (a : Option Addr) (n c : Nat) (xs : List Int) : Prop :=
  xs.length = n ∧ w.ownsRow base e 1 (.slice a n c) n (xs.map (zv k))

section
variable {w w' : World} {base : Nat} {e : TypeId} {k : IntKind} {a : Option Addr} {n c : Nat} {xs : List Int}
theorem ZOwn.nil (w : World) (base : Nat) (e : TypeId) (k : IntKind) : ZOwn w base e k none 0 0 [] := ⟨rfl, World.ownsRow_nil w base e 1⟩
theorem ZOwn.rd (h : ZOwn w base e k a n c xs) : ZRd w k a n c xs := by
  obtain ⟨hl, h1, h2 | ⟨g, cap, cur, hv, hb, hg, hn, hm, hs, ht⟩⟩ := h
  · obtain ⟨hv, rfl⟩ := h2
    simp only [Value.slice.injEq, true_and] at hv
    obtain ⟨rfl, rfl⟩ := hv
    obtain rfl : xs = [] := List.eq_nil_of_length_eq_zero hl
    exact ZRd.nil w k
  · simp only [Value.slice.injEq, true_and] at hv
    obtain ⟨rfl, rfl⟩ := hv
    refine ⟨hl, hn, by unfold maxLen at hm; omega, fun j hj => ⟨g, 0, rfl, ?_⟩⟩
    have h3 := World.ownsRow.cells (w := w) (base := base) (e := e) (size := 1) (v := .slice (some ⟨g, 0, none⟩) n c) (n := n) (xs := xs.map (zv k)) ⟨h1, .inr ⟨g, c, cur, rfl, hb, hg, hn, hm, hs, ht⟩⟩ (g := g) rfl j (zv k xs[j]) (by simp [hj])
    rw [add_addr] at h3
    exact h3
theorem ZOwn.lt (h : ZOwn w base e k a n c xs) : ∀ p, a = some p → base ≤ p.block ∧ p.block < w.heap.size := fun p hp => by
  subst hp
  exact h.2.lt p.block rfl
theorem ZOwn.kept (h : ZOwn w base e k a n c xs) {row : Option Nat} (hg : w.grownBy w' row) (hne : row = none ∨ ∀ p, a = some p → some p.block ≠ row) : ZOwn w' base e k a n c xs := by
  refine ⟨h.1, h.2.kept hg ?_⟩
  cases a with
  | none => exact .inl rfl
  | some p =>
    rcases hne with rfl | hne
    · exact .inr (by simp [Value.ownBlock])
    · exact .inr (hne p rfl)
theorem ZOwn.alloc (h : ZOwn w base e k a n c xs) (o : Obj) : ZOwn (w.alloc o) base e k a n c xs := ⟨h.1, h.2.alloc o⟩
theorem ZOwn.made (w : World) (base : Nat) (e : TypeId) (k : IntKind) (xs : List Int) (hb : base ≤ w.heap.size) (hm : xs.length ≤ 9223372036854775807) :
    ZOwn (w.alloc (.cells (xs.map (zv k)).toArray e)) base e k (some ⟨w.heap.size, 0, none⟩) xs.length xs.length xs :=
  ⟨rfl, by simpa using World.ownsRow_lit (base := base) (e := e) (size := 1) w (xs.map (zv k)).toArray xs.length hb (by unfold maxLen; omega) (by simp)⟩
theorem ZOwn.ofRow {g : Nat} (h : ZRow w g e k xs) (hb : base ≤ g) (hm : xs.length ≤ 9223372036854775807) : ZOwn w base e k (some ⟨g, 0, none⟩) xs.length xs.length xs :=
  ⟨rfl, by simp, .inr ⟨g, xs.length, (xs.map (zv k)).toArray, rfl, hb, h, Nat.le_refl _, by unfold maxLen; omega, by simp, by rw [List.take_of_length_le (by simp)]⟩⟩
end

section
variable {P : Program} {ops : Array Oper} {rest : List Oper} {o : Oper} {a : Act} {Q : Exit → Act → World → Prop}
/-- append of the slice .slice sp m c', which reads as ys, to one of the call's own -/
theorem wz_append (w : World) (hgd : o.guard = none) (s x : Operand) (t : TypeId)
    (ho : o.op = .call { callee := .builtin .append, args := #[s, x], argTypes := #[t, t] })
    (e : TypeId) (k : IntKind) (bytes : Nat) (h1 : P.underlying t = some (.slice e)) (h2 : (P.info? e).map (fun i => (i.zero, i.size, i.bytes)) = some (some (.int k 0), 1, bytes))
    (base : Nat) (p : Option Addr) (n c : Nat) (xs : List Int) (hs : a.eval s = .slice p n c) (hown : ZOwn w base e k p n c xs)
    (sp : Option Addr) (m c' : Nat) (ys : List Int) (hx : a.eval x = .slice sp m c') (hrd : ZRd w k sp m c' ys)
    (b1 : n + m ≤ 9223372036854775807) (b2 : (n + m) * bytes ≤ 140737488355328) (w0 : World) (hg0 : w0.grownBy w none) (hb0 : w0.heap.size ≤ base) (hbase : base ≤ w.heap.size)
    (hK : ∀ p' c2 w', ZOwn w' base e k p' (n + m) c2 (xs ++ ys) → w0.grownBy w' none → wpList P ops Q rest (a.put o.dst (.slice p' (n + m) c2)) w') : wpList P ops Q (o :: rest) a w := by
  obtain ⟨i, hi, hz0, hz1, hz2⟩ := info_parts h2
  subst hz2
  rcases Nat.eq_zero_or_pos m with hm0 | hpos
  rotate_left
  · obtain ⟨b, o', rfl, _, hc⟩ := hrd.block hpos
    refine wpList_append_own w hgd s x t ho base e i (.int k 0) 1 i.bytes h1 hi hz0 hz1 rfl (by rfl) (by decide) _ n (xs.map (zv k)) hs hown.2 ⟨b, o', none⟩ m c' (ys.map (zv k)) hx (by simp [hrd.len]) ?_ ?_ (by unfold maxLen; omega) b2 hbase ?_
    · intro j u hu
      obtain ⟨hj, rfl⟩ := List.getElem?_eq_some_iff.1 hu
      have hj' : j < ys.length := by simpa using hj
      rw [add_addr, hc j hj']; simp
    · intro u hu
      obtain ⟨z, _, rfl⟩ := List.mem_map.1 hu
      rfl
    · intro v' w' hown' hgr _
      obtain ⟨hl, h3⟩ := hown'
      have hv' : ∃ p' c2, v' = .slice p' (n + m) c2 := by
        rcases h3 with ⟨rfl, h4⟩ | ⟨g, cap, cur, rfl, _⟩
        · exact ⟨none, 0, by rw [h4]⟩
        · exact ⟨_, _, rfl⟩
      obtain ⟨p', c2, rfl⟩ := hv'
      refine hK p' c2 w' ⟨by rw [List.length_append, hown.1, hrd.len], by simpa using ⟨hl, h3⟩⟩ (grown_new hg0 hgr fun g hg => ?_)
      cases p with
      | none => simp [Value.ownBlock] at hg
      | some q =>
        simp [Value.ownBlock] at hg
        have := (hown.lt q rfl).1
        omega
  · subst hm0
    have hm : ys = [] := List.eq_nil_of_length_eq_zero hrd.len
    subst hm
    refine wpList_plain hgd fun K hK' => ?_
    have hrun := run_append_zero (P := P) w t o.type e i h1 hi p sp n c c' hown.rd.cap
    unfold Oper.wp
    simp [execOp, ho, resolve, invoke, builtin, hs, hx, hrun]
    have := hK p c w (by simpa using hown) hg0
    exact hK' _ _ (by simpa using this)
end
end Nm

set_option linter.unusedVariables false
set_option linter.unusedSimpArgs false
namespace Nm
open Go Go.RowKit
/-- the fact Φ holds in every world that has this one's blocks, those of S apart -/
def Stay (w : World) (S : Nat → Prop) (Φ : World → Prop) : Prop := ∀ W : World, (∀ G O, w.heap[G]? = some O → ¬ S G → W.heap[G]? = some O) → Φ W
section
variable {w w' : World} {S S' : Nat → Prop} {Φ Ψ : World → Prop}
theorem Stay.out (h : Stay w S Φ) : Φ w := h w fun _ _ h _ => h
theorem Stay.imp (h : Stay w S Φ) (f : ∀ W, Φ W → Ψ W) : Stay w S Ψ := fun W hW => f W (h W hW)
theorem Stay.and (h : Stay w S Φ) (h2 : Stay w S Ψ) : Stay w S (fun W => Φ W ∧ Ψ W) := fun W hW => ⟨h W hW, h2 W hW⟩
theorem Stay.step (h : Stay w S Φ) (hs : ∀ G O, w.heap[G]? = some O → ¬ S G → w'.heap[G]? = some O ∧ ¬ S' G) : Stay w' S' Φ :=
  fun W hW => h W fun G O hG hS => hW G O (hs G O hG hS).1 (hs G O hG hS).2
theorem Stay.keep (h : Stay w S Φ) (hg : w.grownBy w' none) : Stay w' S Φ := h.step fun G O hG hS => ⟨(hg.block G (Array.getElem?_eq_some_iff.1 hG).1 (by simp)).trans hG, hS⟩
theorem Stay.kept (h : Stay w S Φ) {row : Option Nat} (hg : w.grownBy w' row) (hr : ∀ g, row = some g → S g) : Stay w' S Φ :=
  h.step fun G O hG hS => ⟨(hg.block G (Array.getElem?_eq_some_iff.1 hG).1 (fun e => hS (hr G e.symm))).trans hG, hS⟩
theorem Stay.less (h : Stay w S Φ) (hs : ∀ g, g < w.heap.size → S' g → S g) : Stay w S' Φ := h.step fun G O hG hS => ⟨hG, fun h2 => hS (hs G (Array.getElem?_eq_some_iff.1 hG).1 h2)⟩
theorem Stay.true (w : World) (S : Nat → Prop) (p : Prop) (h : p) : Stay w S (fun _ => p) := fun _ _ => h
theorem Stay.cell {a : Addr} {v : Value} (h : w.cell? a = some v) (hs : ¬ S a.block) : Stay w S (fun W => W.cell? a = some v) := fun W hW => by
  have hlt := World.block_lt_of_cell? w a h
  exact (World.cell?_of_block ((hW a.block _ (Array.getElem?_eq_getElem hlt) hs).trans (Array.getElem?_eq_getElem hlt).symm)).trans h
theorem Stay.ird {k : IntKind} {a : Option Addr} {n c : Nat} {xs : List Nat} (h : IRd w k a n c xs) (hs : ∀ p, a = some p → 0 < n → ¬ S p.block) : Stay w S (fun W => IRd W k a n c xs) := fun W hW =>
  ⟨h.len, h.cap, h.max, fun i hi => by
    obtain ⟨b, o, rfl, hc⟩ := h.cel i hi
    exact ⟨b, o, rfl, Stay.cell hc (show ¬ S b from hs ⟨b, o, none⟩ rfl (by have := h.len; omega)) W hW⟩⟩
theorem Stay.zrd {k : IntKind} {a : Option Addr} {n c : Nat} {xs : List Int} (h : ZRd w k a n c xs) (hs : ∀ p, a = some p → 0 < n → ¬ S p.block) : Stay w S (fun W => ZRd W k a n c xs) := fun W hW =>
  ⟨h.len, h.cap, h.max, fun i hi => by
    obtain ⟨b, o, rfl, hc⟩ := h.cel i hi
    exact ⟨b, o, rfl, Stay.cell hc (show ¬ S b from hs ⟨b, o, none⟩ rfl (by have := h.len; omega)) W hW⟩⟩
theorem IRd.agree {w W : World} {k : IntKind} {a : Option Addr} {n c : Nat} {xs : List Nat} (h : IRd w k a n c xs) (hW : ∀ G, G < w.heap.size → W.heap[G]? = w.heap[G]?) : IRd W k a n c xs :=
  ⟨h.len, h.cap, h.max, fun i hi => by
    obtain ⟨b, o, rfl, hc⟩ := h.cel i hi
    exact ⟨b, o, rfl, (World.cell?_of_block (hW b (World.block_lt_of_cell? w _ hc))).trans hc⟩⟩
theorem ZRd.agree {w W : World} {k : IntKind} {a : Option Addr} {n c : Nat} {xs : List Int} (h : ZRd w k a n c xs) (hW : ∀ G, G < w.heap.size → W.heap[G]? = w.heap[G]?) : ZRd W k a n c xs :=
  ⟨h.len, h.cap, h.max, fun i hi => by
    obtain ⟨b, o, rfl, hc⟩ := h.cel i hi
    exact ⟨b, o, rfl, (World.cell?_of_block (hW b (World.block_lt_of_cell? w _ hc))).trans hc⟩⟩
/-- a slice of numbers that is not empty does not lie in a block whose cells are no numbers -/
theorem IRd.notIn {w : World} {k : IntKind} {a : Option Addr} {n c : Nat} {xs : List Nat} (h : IRd w k a n c xs) {G : Nat} {cs : Array Value} {T : TypeId} {z : Nat × Nat} (hb : w.heap[G]? = some (.cells cs T z)) (hc : ∀ v ∈ cs, ∀ x, v ≠ .int k x) : ∀ p, a = some p → 0 < n → p.block ≠ G := by
  rintro p rfl hn rfl
  obtain ⟨b, o, e, hcell⟩ := h.cel 0 (by have := h.len; omega)
  cases e
  unfold World.cell? at hcell
  rw [hb] at hcell
  simp only [Nat.add_zero] at hcell
  exact hc _ (Array.mem_of_getElem? hcell) _ rfl
theorem ZRd.notIn {w : World} {k : IntKind} {a : Option Addr} {n c : Nat} {xs : List Int} (h : ZRd w k a n c xs) {G : Nat} {cs : Array Value} {T : TypeId} {z : Nat × Nat} (hb : w.heap[G]? = some (.cells cs T z)) (hc : ∀ v ∈ cs, ∀ x, v ≠ .int k x) : ∀ p, a = some p → 0 < n → p.block ≠ G := by
  rintro p rfl hn rfl
  obtain ⟨b, o, e, hcell⟩ := h.cel 0 (by have := h.len; omega)
  cases e
  unfold World.cell? at hcell
  rw [hb] at hcell
  simp only [Nat.add_zero] at hcell
  exact hc _ (Array.mem_of_getElem? hcell) _ rfl
end
end Nm

set_option linter.unusedVariables false
set_option linter.unusedSimpArgs false
namespace Nm
open Go Go.RowKit
/-- no number -/
def NoInt (v : Value) : Prop := ∀ k x, v ≠ .int k x
theorem NoInt.bool (b : Bool) : NoInt (.bool b) := fun k x h => by cases h
theorem NoInt.slice (p : Option Addr) (n c : Nat) : NoInt (.slice p n c) := fun k x h => by cases h
theorem flatten_len {k : Nat} : ∀ {l : List (List Value)}, (∀ r ∈ l, r.length = k) → l.flatten.length = l.length * k
  | [], _ => by simp
  | r :: l, h => by
    rw [List.flatten_cons, List.length_append, flatten_len (fun r hr => h r (by simp [hr])), h r (by simp), List.length_cons, Nat.add_mul]
    omega
/-- .slice p n c is nil, or the head of a row of the call's own, from block base on, whose first n elements of k cells are l, and that holds no numbers -/
structure QOwn (w : World) (base : Nat) (e : TypeId) (k : Nat) (p : Option Addr) (n c : Nat) (l : List (List Value)) : Prop where
  len : l.length = n
  each : ∀ r ∈ l, r.length = k
  cap : n ≤ c
  own : (p = none ∧ c = 0) ∨ ∃ (g : Nat) (cur : Array Value), p = some ⟨g, 0, none⟩ ∧ base ≤ g ∧ w.heap[g]? = some (.cells cur e (0, 0)) ∧ c ≤ maxLen ∧ cur.size = c * k ∧ cur.toList.take (n * k) = l.flatten ∧ ∀ v ∈ cur, NoInt v
section
variable {w w' : World} {base : Nat} {e : TypeId} {k : Nat} {p : Option Addr} {n c : Nat} {l : List (List Value)}
theorem QOwn.nil (w : World) (base : Nat) (e : TypeId) (k : Nat) : QOwn w base e k none 0 0 [] := ⟨rfl, by simp, Nat.le_refl _, .inl ⟨rfl, rfl⟩⟩
theorem QOwn.lt (h : QOwn w base e k p n c l) : ∀ a, p = some a → base ≤ a.block ∧ a.block < w.heap.size := fun a ha => by
  rcases h.own with ⟨h1, _⟩ | ⟨g, cur, h1, h2, h3, _⟩
  · rw [h1] at ha; cases ha
  · rw [h1] at ha
    cases ha
    exact ⟨h2, lt_of_block h3⟩
theorem QOwn.kept (h : QOwn w base e k p n c l) {row : Option Nat} (hg : w.grownBy w' row) (hne : row = none ∨ ∀ a, p = some a → some a.block ≠ row) : QOwn w' base e k p n c l := by
  refine ⟨h.len, h.each, h.cap, ?_⟩
  rcases h.own with h1 | ⟨g, cur, rfl, h2, h3, h4⟩
  · exact .inl h1
  · refine .inr ⟨g, cur, rfl, h2, (hg.block g (lt_of_block h3) ?_).trans h3, h4⟩
    rcases hne with rfl | hne
    · simp
    · exact hne _ rfl
theorem QOwn.keep (h : QOwn w base e k p n c l) (hg : w.grownBy w' none) : QOwn w' base e k p n c l := h.kept hg (.inl rfl)
theorem QOwn.max (h : QOwn w base e k p n c l) : c ≤ 9223372036854775807 := by
  rcases h.own with ⟨_, h1⟩ | ⟨g, cur, _, _, _, h4, _⟩
  · omega
  · unfold maxLen at h4; omega
theorem QOwn.flat (h : QOwn w base e k p n c l) : l.flatten.length = n * k := by rw [flatten_len h.each, h.len]
theorem QOwn.cells (h : QOwn w base e k p n c l) {g : Nat} (hp : p = some ⟨g, 0, none⟩) (j : Nat) (u : Value) (hu : l.flatten[j]? = some u) : w.cell? ⟨g, j, none⟩ = some u := by
  rcases h.own with ⟨h1, _⟩ | ⟨g', cur, h1, h2, h3, h4, h5, h6, _⟩
  · rw [h1] at hp; cases hp
  · rw [h1] at hp
    cases hp
    rw [cell_of_row w g j cur e (0, 0) h3]
    rw [← h6, List.getElem?_take] at hu
    split at hu
    · simpa using hu
    · cases hu
theorem QOwn.rd (h : QOwn w base e k p n c l) : SRd w k p n c l := by
  refine ⟨h.len, h.each, h.cap, h.max, fun i hi j hj => ?_⟩
  rcases h.own with ⟨h1, h2⟩ | ⟨g, cur, h1, _⟩
  · have := h.len; have := h.cap; omega
  · refine ⟨g, 0, h1, ?_⟩
    rw [Nat.zero_add]
    exact h.cells h1 _ _ (flatten_get h.each i hi j hj)
/-- no number lies in the row's block -/
theorem QOwn.noInt (h : QOwn w base e k p n c l) {g : Nat} (hp : p.map (·.block) = some g) : ∃ cur : Array Value, w.heap[g]? = some (.cells cur e (0, 0)) ∧ ∀ v ∈ cur, NoInt v := by
  rcases h.own with ⟨h1, _⟩ | ⟨g', cur, h1, _, h3, _, _, _, h7⟩
  · rw [h1] at hp; simp at hp
  · rw [h1] at hp
    simp at hp
    subst hp
    exact ⟨cur, h3, h7⟩
theorem QOwn.ird (h : QOwn w base e k p n c l) {kd : IntKind} {a : Option Addr} {m d : Nat} {xs : List Nat} (hr : IRd w kd a m d xs) : ∀ x, a = some x → 0 < m → ¬ p.map (·.block) = some x.block := fun x hx hm hp => by
  obtain ⟨cur, h1, h2⟩ := h.noInt hp
  exact hr.notIn h1 (fun v hv y => h2 v hv kd y) x hx hm rfl
theorem QOwn.zrd (h : QOwn w base e k p n c l) {kd : IntKind} {a : Option Addr} {m d : Nat} {xs : List Int} (hr : ZRd w kd a m d xs) : ∀ x, a = some x → 0 < m → ¬ p.map (·.block) = some x.block := fun x hx hm hp => by
  obtain ⟨cur, h1, h2⟩ := h.noInt hp
  exact hr.notIn h1 (fun v hv y => h2 v hv kd y) x hx hm rfl
end
theorem SRd.flat {w : World} {k : Nat} {b o m c : Nat} {rs : List (List Value)} (h : SRd w k (some ⟨b, o, none⟩) m c rs) (hk : 0 < k) (j : Nat) (u : Value) (hu : rs.flatten[j]? = some u) : w.cell? ⟨b, o + j, none⟩ = some u := by
  obtain ⟨hj, _⟩ := List.getElem?_eq_some_iff.1 hu
  rw [flatten_len h.each] at hj
  have hi : j / k < rs.length := Nat.div_lt_of_lt_mul (by rw [Nat.mul_comm]; exact hj)
  have hr : j % k < (rs[j / k]).length := by rw [h.each _ (List.getElem_mem hi)]; exact Nat.mod_lt _ hk
  have hd : j / k * k + j % k = j := Nat.div_add_mod' j k
  have h1 := flatten_get h.each (j / k) hi (j % k) hr
  rw [hd, hu] at h1
  obtain ⟨b', o', e, hc⟩ := h.cel (j / k) hi (j % k) hr
  cases e
  rw [Nat.add_assoc, hd] at hc
  rw [hc]
  exact h1.symm
theorem mem_madeQ {z : Array Value} (hz : ∀ v ∈ z, NoInt v) (m : Nat) : ∀ v ∈ Builtin.zeroCells z m, NoInt v := fun v hv => by
  unfold Builtin.zeroCells at hv
  obtain ⟨i, hi, rfl⟩ := Array.mem_map.1 hv
  have h0 : i < m * z.size := by simpa using hi
  have h1 : 0 < z.size := by
    rcases Nat.eq_zero_or_pos z.size with h | h
    · rw [h] at h0; simp at h0
    · exact h
  have h2 : i % z.size < z.size := Nat.mod_lt _ h1
  have h3 := hz _ (Array.getElem_mem h2)
  simpa [h2] using h3
section
variable {P : Program}
/-- append of the slice .slice sp m c', which reads as rs, to one of the call's own -/
theorem run_append_q (w : World) (t ty e : TypeId) (i : TypeInfo) (z : Value) (k bytes : Nat) (ht : P.underlying t = some (.slice e)) (hi : P.info? e = some i) (hz : i.zero = some z)
    (hsize : i.size = k) (hby : i.bytes = bytes) (hzs : z.cells.size = k) (hk : 0 < k) (hzn : ∀ v ∈ z.cells, NoInt v)
    {base : Nat} {p : Option Addr} {n c : Nat} {l : List (List Value)} (hq : QOwn w base e k p n c l)
    {sp : Option Addr} {m c' : Nat} {rs : List (List Value)} (hrd : SRd w k sp m c' rs) (hno : ∀ r ∈ rs, ∀ v ∈ r, NoInt v) (h1c : ∀ r ∈ rs, ∀ v ∈ r, v.oneCell' = true)
    (h63 : n + m ≤ maxLen) (hbytes : (n + m) * bytes ≤ 140737488355328) (hbase : base ≤ w.heap.size) :
    ∃ p' c2 w', (Builtin.append_ #[t, t] ty #[.slice p n c, .slice sp m c']).run P w = .ok (.slice p' (n + m) c2) w' ∧ QOwn w' base e k p' (n + m) c2 (l ++ rs) ∧ w.grownBy w' (p.map (·.block)) ∧
      (p'.map (·.block) = p.map (·.block) ∨ p'.map (·.block) = some w.heap.size) := by
  subst hsize
  subst hby
  have hrl := hrd.len
  rcases Nat.eq_zero_or_pos m with rfl | hm
  · have : rs = [] := List.eq_nil_of_length_eq_zero hrl
    subst this
    refine ⟨p, c, w, run_append_zero w t ty e i ht hi p sp n c c' hq.cap, by simpa using hq, ⟨rfl, rfl, rfl, Nat.le_refl _, fun _ _ _ => rfl⟩, .inl rfl⟩
  · obtain ⟨b, o, rfl, _⟩ := hrd.at hk (i := 0) (by omega)
    have hnl : rs.flatten.length = m * i.size := by rw [flatten_len hrd.each, hrl]
    have hnews : ∀ j u, rs.flatten[j]? = some u → w.cell? ((⟨b, o, none⟩ : Addr).add j) = some u := fun j u hu => by
      rw [add_addr]
      exact hrd.flat hk j u hu
    have h1 : ∀ u ∈ rs.flatten, u.oneCell' = true := fun u hu => by
      obtain ⟨r, hr, hv⟩ := List.mem_flatten.1 hu
      exact h1c r hr u hv
    have hn1 : ∀ u ∈ rs.flatten, NoInt u := fun u hu => by
      obtain ⟨r, hr, hv⟩ := List.mem_flatten.1 hu
      exact hno r hr u hv
    have heach : ∀ r ∈ l ++ rs, r.length = i.size := fun r hr => (List.mem_append.1 hr).elim (hq.each r) (hrd.each r)
    have hll : (l ++ rs).length = n + m := by rw [List.length_append, hq.len, hrl]
    rcases hq.own with ⟨rfl, rfl⟩ | ⟨g, cur, rfl, hbg, hg, hcm, hcs, htake, hnoc⟩
    · obtain rfl : n = 0 := by have := hq.cap; omega
      have : l = [] := List.eq_nil_of_length_eq_zero hq.len
      subst this
      have hr := run_append_nil (P := P) w t ty e i z ht hi hz ⟨b, o, none⟩ m c' rs.flatten hnl hnews hm (by unfold maxLen at h63; omega) (by have hb := hbytes; simp only [Nat.zero_add] at hb; omega)
      have hge := grownCap_ge w m 0 e
      have hcm := grownCap_le_maxLen w m 0 e (by omega)
      refine ⟨_, _, _, by rw [Nat.zero_add]; exact hr, ⟨by simpa using hll, heach, by omega, .inr ⟨w.heap.size, _, rfl, hbase, heap_alloc_new w.drew _, hcm, ?_, ?_, ?_⟩⟩, ⟨rfl, rfl, rfl, by simp, fun k' hk' _ => heap_alloc_old w.drew _ hk'⟩, .inr rfl⟩
      · simp only [Array.size_append, List.size_toArray, size_zeroCells, hzs, hnl, ← Nat.add_mul]
        congr 1
        omega
      · simp only [Nat.zero_add, Array.toList_append, List.nil_append]
        rw [← hnl]
        exact List.take_left
      · intro v hv
        rcases Array.mem_append.1 hv with h | h
        · exact hn1 v (by simpa using h)
        · exact mem_madeQ hzn _ v h
    · by_cases hroom : n + m ≤ c
      · have hfit : n * i.size + rs.flatten.length ≤ cur.size := by rw [hnl, hcs, ← Nat.add_mul]; exact Nat.mul_le_mul_right _ hroom
        have hr := run_append_room (P := P) w t ty e i ht hi g n c cur hg ⟨b, o, none⟩ m c' rs.flatten hnl hnews h1 hroom hfit
        refine ⟨_, _, _, hr, ⟨hll, heach, hroom, .inr ⟨g, _, rfl, hbg, setRow_heap w g cur _ e _ hg, hcm, ?_, ?_, ?_⟩⟩, ⟨rfl, rfl, rfl, by simp, fun k' _ hk' => setRow_other w g k' _ (fun e => hk' (by simp [e]))⟩, .inl rfl⟩
        · simp only [List.size_toArray, List.length_append, List.length_take, List.length_drop, Array.length_toList]
          omega
        · rw [htake, List.flatten_append]
          have hfl : (l.flatten ++ rs.flatten).length = (n + m) * i.size := by rw [List.length_append, hq.flat, hnl, Nat.add_mul]
          rw [← hfl]
          exact List.take_left
        · intro v hv
          have hv' : v ∈ cur.toList.take (n * i.size) ++ rs.flatten ++ cur.toList.drop (n * i.size + rs.flatten.length) := by simpa using hv
          rcases List.mem_append.1 hv' with h | h
          · rcases List.mem_append.1 h with h | h
            · exact hnoc v (by simpa using List.mem_of_mem_take h)
            · exact hn1 v h
          · exact hnoc v (by simpa using List.mem_of_mem_drop h)
      · have holds : ∀ j u, l.flatten[j]? = some u → w.cell? ((⟨g, 0, none⟩ : Addr).add j) = some u := fun j u hu => by
          rw [add_addr, Nat.zero_add]
          exact hq.cells rfl j u hu
        have hr := run_append_grow (P := P) w t ty e i z ht hi hz ⟨g, 0, none⟩ n c l.flatten hq.flat holds ⟨b, o, none⟩ m c' rs.flatten hnl hnews (by omega) (by unfold maxLen at h63; omega) (growslice_fits (by omega) hbytes)
        have hge := grownCap_ge w (n + m) c e
        have hcm2 := grownCap_le_maxLen w (n + m) c e h63
        refine ⟨_, _, _, hr, ⟨hll, heach, hge, .inr ⟨w.heap.size, _, rfl, hbase, heap_alloc_new w.drew _, hcm2, ?_, ?_, ?_⟩⟩, ⟨rfl, rfl, rfl, by simp, fun k' hk' _ => heap_alloc_old w.drew _ hk'⟩, .inr rfl⟩
        · simp only [Array.size_append, List.size_toArray, size_zeroCells, hzs, hnl, hq.flat, ← Nat.add_mul]
          congr 1
          omega
        · simp only [Array.toList_append, List.flatten_append]
          have hfl : (l.flatten ++ rs.flatten).length = (n + m) * i.size := by rw [List.length_append, hq.flat, hnl, Nat.add_mul]
          rw [← hfl]
          exact List.take_left
        · intro v hv
          rcases Array.mem_append.1 hv with h | h
          · rcases Array.mem_append.1 h with h | h
            · have h' : v ∈ l.flatten := by simpa using h
              rw [← htake] at h'
              exact hnoc v (by simpa using List.mem_of_mem_take h')
            · exact hn1 v (by simpa using h)
          · exact mem_madeQ hzn _ v h
variable {ops : Array Oper} {o : Oper} {a : Act}
/-- the same, in a list of operations -/
theorem wlq_append {rest : List Oper} {Q : Exit → Act → World → Prop} (w : World) (hgd : o.guard = none) (s x : Operand) (t : TypeId)
    (ho : o.op = .call { callee := .builtin .append, args := #[s, x], argTypes := #[t, t] })
    (e : TypeId) (k : Nat) (z : Value) (bytes : Nat) (h1 : P.underlying t = some (.slice e)) (h2 : (P.info? e).map (fun i => (i.zero, i.size, i.bytes)) = some (some z, k, bytes)) (hz : z.cells.size = k) (hk : 0 < k) (hzn : ∀ v ∈ z.cells, NoInt v)
    (base : Nat) (p : Option Addr) (n c : Nat) (l : List (List Value)) (hs : a.eval s = .slice p n c) (hq : QOwn w base e k p n c l)
    (sp : Option Addr) (m c' : Nat) (rs : List (List Value)) (hx : a.eval x = .slice sp m c') (hrd : SRd w k sp m c' rs) (hno : ∀ r ∈ rs, ∀ v ∈ r, NoInt v) (h1c : ∀ r ∈ rs, ∀ v ∈ r, v.oneCell' = true)
    (b1 : n + m ≤ 9223372036854775807) (b2 : (n + m) * bytes ≤ 140737488355328) (hbase : base ≤ w.heap.size)
    (hK : ∀ p' c2 w', QOwn w' base e k p' (n + m) c2 (l ++ rs) → w.grownBy w' (p.map (·.block)) → (p'.map (·.block) = p.map (·.block) ∨ p'.map (·.block) = some w.heap.size) → wpList P ops Q rest (a.put o.dst (.slice p' (n + m) c2)) w') : wpList P ops Q (o :: rest) a w := by
  refine wpList_plain hgd fun K hK' => ?_
  obtain ⟨i, hi, hz0, hz1, hz2⟩ := info_parts h2
  obtain ⟨p', c2, w', hrun, hq', hg, hat⟩ := run_append_q (P := P) w t o.type e i z k bytes h1 hi hz0 hz1 hz2 hz hk hzn hq hrd hno h1c (by unfold maxLen; omega) b2 hbase
  have hfin := hK p' c2 w' hq' hg hat
  unfold Oper.wp
  simp [execOp, ho, resolve, invoke, builtin, hs, hx, hrun, Result.andThen]
  exact hK' _ _ hfin
end
end Nm

set_option linter.unusedVariables false
set_option linter.unusedSimpArgs false
namespace Nm
open Go Go.RowKit
section
variable {P : Program} {ops : Array Oper} {o : Oper} {a : Act}
end
end Nm

set_option linter.unusedVariables false
set_option linter.unusedSimpArgs false
namespace Nm
open Go Go.RowKit

theorem blk0 (w : World) (A : Obj) : (w.alloc A).heap[w.heap.size]? = some A := heap_alloc_new w A
section
variable {w : World} {G : Nat} {x y z u : Value} {T : TypeId}
theorem set4 (hb : w.heap[G]? = some (.cells #[x, y, z, u] T (0, 0))) (A B C D : Value) :
    ((((w.setCell ⟨G, 0, none⟩ A).setCell ⟨G, 1, none⟩ B).setCell ⟨G, 2, none⟩ C).setCell ⟨G, 3, none⟩ D).heap[G]? = some (.cells #[A, B, C, D] T (0, 0)) := by
  have h1 := heap_setCell_same w G 0 _ _ A hb
  have h2 := heap_setCell_same _ G 1 _ _ B h1
  have h3 := heap_setCell_same _ G 2 _ _ C h2
  have h4 := heap_setCell_same _ G 3 _ _ D h3
  simpa using h4
theorem set4_grown (w : World) (G : Nat) (A B C D : Value) : w.grownBy ((((w.setCell ⟨G, 0, none⟩ A).setCell ⟨G, 1, none⟩ B).setCell ⟨G, 2, none⟩ C).setCell ⟨G, 3, none⟩ D) (some G) :=
  grown_trans (grown_setCell w ⟨G, 0, none⟩ A) (grown_trans (grown_setCell _ ⟨G, 1, none⟩ B) (grown_trans (grown_setCell _ ⟨G, 2, none⟩ C) (grown_setCell _ ⟨G, 3, none⟩ D)))
theorem keepB {w' : World} {O : Obj} (hb : w.heap[G]? = some O) (hg : w.grownBy w' none) : w'.heap[G]? = some O := (hg.block G (lt_of_block hb) (by simp)).trans hb
end
end Nm

set_option linter.unusedVariables false
set_option linter.unusedSimpArgs false
namespace Go.Proofs.YtknmdmofmcfjhaaGreatDoor
open Go.RowKit Nm

theorem trimM_any (a : Option Addr) (n c : Nat) (xs : List Int) (w : World) (h : ZRd w .i64 a n c xs) :
    Calls Tryz.prog 115 #[.slice a n c] w fun e w' => e = .returned (.slice a (trimZ xs).length c) ∧ w = w' := by
  have hl := h.len
  have hcap := h.cap
  have hmax := h.max
  have HL := hid hl
  clear hl
  go_enter Tryz.func115, Tryz.ntmps115
  go_wp2
  go_loop [0] (fun t => ∃ k : Nat, k ≤ n ∧ trimZ xs = trimZ (xs.take k) ∧ t = .slice a k c) (fun t => match t with | .slice _ k _ => k | _ => 0)
  case atStart => exact ⟨n, Nat.le_refl _, by rw [List.take_of_length_le (by rw [HL.out]; exact Nat.le_refl _)], rfl⟩
  case round =>
    obtain ⟨k, hk, hz, rfl⟩ := hrel
    have HZ := hid hz
    clear hz
    by_cases h0 : 0 < k
    · obtain ⟨i, rfl⟩ : ∃ i, k = i + 1 := ⟨k - 1, by omega⟩
      have hi : i < xs.length := by rw [HL.out]; omega
      obtain ⟨b, o, rfl, hci⟩ := h.cel i hi
      have ht := List.take_succ_eq_append_getElem hi
      obtain ⟨x, hx⟩ : ∃ x, x = xs[i] := ⟨_, rfl⟩
      rw [← hx] at hci ht
      have HT := hid ht
      clear ht hx h hi
      by_cases hf : x = 0
      · have HF := hid hf
        rw [hf] at hci
        clear hf
        go_wp2
        exact ⟨⟨i, by omega, by rw [HZ.out, HT.out, HF.out, trimZ_snoc_zero], rfl⟩, by simp⟩
      · go_wp2
        go_ret
        exact ⟨by rw [HZ.out, HT.out, trimZ_snoc hf]; simp; have := HL.out; omega, rfl⟩
    · obtain rfl : k = 0 := by omega
      go_wp2
      go_ret
      exact ⟨by rw [HZ.out]; simp [trimZ], rfl⟩

theorem exp_nat (a : Option Addr) (n c : Nat) (xs : List Int) (w : World) (h : ZRd w .i64 a n c xs) (i : Nat) :
    Calls Tryz.prog 131 #[.slice a n c, .int .i64 i] w fun e w' => e = .returned (.int .i64 (ex xs i)) ∧ w = w' := by
  have HL := hid h.len
  by_cases hlt : i < n
  · have hi : i < xs.length := by rw [HL.out]; exact hlt
    obtain ⟨b, o, rfl, hci⟩ := h.cel i hi
    have hx := ex_lt hi
    rw [hx]
    generalize xs[i] = x at *
    clear hx hi
    have h1 : (i : Int) < n := by omega
    have h2 : ¬ ((n : Int) ≤ i) := by omega
    go_enter Tryz.func131, Tryz.ntmps131
    go_wp2
    go_ret
    exact ⟨rfl, rfl⟩
  · rw [ex_ge (by rw [HL.out]; omega)]
    have h2 : (n : Int) ≤ i := by omega
    go_enter Tryz.func131, Tryz.ntmps131
    go_wp2
    go_ret
    exact ⟨rfl, rfl⟩
theorem rexp_nat (a : Option Addr) (n c : Nat) (xs : List Int) (w : World) (h : ZRd w .i64 a n c xs) (i : Nat) :
    Calls Tryz.prog 97 #[.slice a n c, .int .i64 i] w fun e w' => e = .returned (.int .i64 (ex xs i)) ∧ w = w' := by
  have HL := hid h.len
  by_cases hlt : i < n
  · have hi : i < xs.length := by rw [HL.out]; exact hlt
    obtain ⟨b, o, rfl, hci⟩ := h.cel i hi
    have hx := ex_lt hi
    rw [hx]
    generalize xs[i] = x at *
    clear hx hi
    have h1 : (i : Int) < n := by omega
    have h2 : ¬ ((n : Int) ≤ i) := by omega
    go_enter Tryz.func97, Tryz.ntmps97
    go_wp2
    go_ret
    exact ⟨rfl, rfl⟩
  · rw [ex_ge (by rw [HL.out]; omega)]
    have h2 : (n : Int) ≤ i := by omega
    go_enter Tryz.func97, Tryz.ntmps97
    go_wp2
    go_ret
    exact ⟨rfl, rfl⟩
theorem degree_any (a : Option Addr) (n c : Nat) (xs : List Int) (w : World) (h : ZRd w .i64 a n c xs) {B : Int} (hr : RightZ B xs) (hB : 0 ≤ B ∧ B ≤ 4294967296) :
    Calls Tryz.prog 98 #[.slice a n c] w fun e w' => e = .returned (.int .i64 (degZ xs)) ∧ w = w' := by
  have HL := hid h.len
  have hn : n ≤ 64 := by rw [← HL.out]; exact hr.len
  have HS := hid (fun k => sumN_nonneg (fun i => (hr.ex hB.1 i).1) k)
  have HM := hid (fun k => sumN_le (fun i => (hr.ex hB.1 i).2) k)
  have HX := hid (fun k => hr.ex hB.1 k)
  have HD : Hid (degZ xs = sumN (ex xs) n) := hid (by unfold degZ; rw [HL.out])
  rw [HD.out]
  clear hr
  go_enter Tryz.func98, Tryz.ntmps98
  go_wp2
  go_loop [3, 8] (fun s i => ∃ k : Nat, k ≤ n ∧ i = .int .i64 k ∧ s = .int .i64 (sumN (ex xs) k)) (fun _ i => n - (intOf i).toNat)
  case atStart => exact ⟨0, Nat.zero_le _, rfl, rfl⟩
  case round =>
    obtain ⟨k, hk, rfl, rfl⟩ := hrel
    by_cases hlt : k < n
    · have hi : k < xs.length := by rw [HL.out]; exact hlt
      obtain ⟨b, o, rfl, hci⟩ := h.cel k hi
      have hx := ex_lt hi
      rw [← hx] at hci
      have s0 := HS.out k
      have s1 := HM.out k
      have s2 := HX.out k
      have hs : sumN (ex xs) (k + 1) = sumN (ex xs) k + ex xs k := rfl
      have s3 : (k : Int) * B ≤ 64 * B := Int.mul_le_mul_of_nonneg_right (by omega) hB.1
      have s4 : sumN (ex xs) k ≤ 274877906944 := by omega
      have HN := hid hs
      clear hs hx hi h s1 s3
      generalize sumN (ex xs) k = s at *
      generalize ex xs k = x at *
      have s5 : x ≤ 4294967296 := by omega
      obtain ⟨s2, _⟩ := s2
      have hki : (k : Int) < (n : Int) := by omega
      go_wp2
      exact ⟨⟨k + 1, by omega, rfl, by rw [HN.out]⟩, by simp [intOf]; omega⟩
    · obtain rfl : k = n := by omega
      go_wp2
      go_ret
      exact ⟨rfl, rfl⟩

theorem rdegree_any (a : Option Addr) (n c : Nat) (xs : List Int) (w : World) (h : ZRd w .i64 a n c xs) {B : Int} (hr : RightZ B xs) (hB : 0 ≤ B ∧ B ≤ 4294967296) :
    Calls Tryz.prog 90 #[.slice a n c] w fun e w' => e = .returned (.int .i64 (degZ xs)) ∧ w = w' := by
  have HL := hid h.len
  have hn : n ≤ 64 := by rw [← HL.out]; exact hr.len
  have HS := hid (fun k => sumN_nonneg (fun i => (hr.ex hB.1 i).1) k)
  have HM := hid (fun k => sumN_le (fun i => (hr.ex hB.1 i).2) k)
  have HX := hid (fun k => hr.ex hB.1 k)
  have HD : Hid (degZ xs = sumN (ex xs) n) := hid (by unfold degZ; rw [HL.out])
  rw [HD.out]
  clear hr
  go_enter Tryz.func90, Tryz.ntmps90
  go_wp2
  go_loop [3, 4] (fun s i => ∃ k : Nat, k ≤ n ∧ i = .int .i64 k ∧ s = .int .i64 (sumN (ex xs) k)) (fun _ i => n - (intOf i).toNat)
  case atStart => exact ⟨0, Nat.zero_le _, rfl, rfl⟩
  case round =>
    obtain ⟨k, hk, rfl, rfl⟩ := hrel
    by_cases hlt : k < n
    · have hi : k < xs.length := by rw [HL.out]; exact hlt
      obtain ⟨b, o, rfl, hci⟩ := h.cel k hi
      have hx := ex_lt hi
      rw [← hx] at hci
      have s0 := HS.out k
      have s1 := HM.out k
      have s2 := HX.out k
      have hs : sumN (ex xs) (k + 1) = sumN (ex xs) k + ex xs k := rfl
      have s3 : (k : Int) * B ≤ 64 * B := Int.mul_le_mul_of_nonneg_right (by omega) hB.1
      have s4 : sumN (ex xs) k ≤ 274877906944 := by omega
      have HN := hid hs
      clear hs hx hi h s1 s3
      generalize sumN (ex xs) k = s at *
      generalize ex xs k = x at *
      have s5 : x ≤ 4294967296 := by omega
      obtain ⟨s2, _⟩ := s2
      have hki : (k : Int) < (n : Int) := by omega
      go_wp2
      exact ⟨⟨k + 1, by omega, rfl, by rw [HN.out]⟩, by simp [intOf]; omega⟩
    · obtain rfl : k = n := by omega
      go_wp2
      go_ret
      exact ⟨rfl, rfl⟩

theorem main_any (a : Option Addr) (n c : Nat) (xs : List Int) (w : World) (h : ZRd w .i64 a n c xs) (hl : xs.getLast? ≠ some 0) :
    Calls Tryz.prog 148 #[.slice a n c] w fun e w' => e = .returned (.int .i64 ((n : Int) - 1)) ∧ w = w' := by
  have HT : Hid ((trimZ xs).length = n) := hid (by rw [trimZ_id hl, h.len])
  have hcap := h.cap
  have hmax := h.max
  have R := hid (trimM_any a n c xs w h)
  rw [HT.out] at R
  go_enter Tryz.func148, Tryz.ntmps148
  go_wp2_with (go_at_call 115; (with_reducible refine (R.out).mono ?_); rintro e w' ⟨rfl, rfl⟩)
  go_ret
  exact ⟨rfl, rfl⟩
theorem cmpZ_any (x y : Int) (w : World) :
    Calls Tryz.prog 130 #[.int .i64 x, .int .i64 y] w fun e w' => e = .returned (.int .i64 (cmpZ x y)) ∧ w = w' := by
  by_cases h : x < y
  · have e : cmpZ x y = -1 := if_pos h
    rw [e]
    go_enter Tryz.func130, Tryz.ntmps130
    go_wp2
    go_ret
    exact ⟨rfl, rfl⟩
  · by_cases h2 : y < x
    · have e : cmpZ x y = 1 := by unfold cmpZ; rw [if_neg h, if_pos h2]
      rw [e]
      go_enter Tryz.func130, Tryz.ntmps130
      go_wp2
      go_ret
      exact ⟨rfl, rfl⟩
    · have e : cmpZ x y = 0 := by unfold cmpZ; rw [if_neg h, if_neg h2]
      rw [e]
      go_enter Tryz.func130, Tryz.ntmps130
      go_wp2
      go_ret
      exact ⟨rfl, rfl⟩
theorem sign_any (x y d : Int) (w : World) (hd : d = x - y) :
    Calls Tryz.prog 126 #[.int .i64 d] w fun e w' => e = .returned (.int .i64 (cmpZ x y)) ∧ w = w' := by
  by_cases h : d < 0
  · have e : cmpZ x y = -1 := if_pos (by omega)
    rw [e]
    clear e hd
    go_enter Tryz.func126, Tryz.ntmps126
    go_wp2
    go_ret
    exact ⟨rfl, rfl⟩
  · by_cases h2 : 0 < d
    · have e : cmpZ x y = 1 := by unfold cmpZ; rw [if_neg (by omega), if_pos (by omega)]
      rw [e]
      clear e hd
      go_enter Tryz.func126, Tryz.ntmps126
      go_wp2
      go_ret
      exact ⟨rfl, rfl⟩
    · have e : cmpZ x y = 0 := by unfold cmpZ; rw [if_neg (by omega), if_neg (by omega)]
      rw [e]
      clear e hd
      go_enter Tryz.func126, Tryz.ntmps126
      go_wp2
      go_ret
      exact ⟨rfl, rfl⟩
end Go.Proofs.YtknmdmofmcfjhaaGreatDoor

set_option linter.unusedVariables false
set_option linter.unusedSimpArgs false
namespace Go.Proofs.YtknmdmofmcfjhaaGreatDoor
open Go.RowKit Nm

def okE (x : Int) : Prop := 0 ≤ x ∧ x ≤ 1048576
instance (x : Int) : Decidable (okE x) := by unfold okE; exact inferInstance
theorem rright_any (a : Option Addr) (n c : Nat) (xs : List Int) (w : World) (h : ZRd w .i64 a n c xs) :
    Calls Tryz.prog 67 #[.slice a n c] w fun e w' => e = .returned (.bool (decide (RightZ 1048576 xs))) ∧ w = w' := by
  have HL := hid h.len
  have hcap := h.cap
  have hmax := h.max
  by_cases h1 : 64 < n
  · rw [decide_eq_false (fun (h : RightZ 1048576 xs) => absurd h.len (by rw [HL.out]; omega))]
    have h1' : (64 : Int) < n := by omega
    go_enter Tryz.func67, Tryz.ntmps67
    go_wp2
    go_ret
    exact ⟨rfl, rfl⟩
  have h1' : ¬ (64 : Int) < n := by omega
  rcases Nat.eq_zero_or_pos n with h0 | h0
  · subst h0
    obtain rfl : xs = [] := List.eq_nil_of_length_eq_zero HL.out
    rw [decide_eq_true RightZ.nil]
    go_enter Tryz.func67, Tryz.ntmps67
    go_wp2
    go_loop [3] (fun i => i = .int .i64 0) (fun i => 0)
    case atStart => rfl
    case round =>
      obtain rfl := hrel
      go_wp2
      go_ret
      exact ⟨rfl, rfl⟩
  · obtain ⟨b, o, rfl, _, hc⟩ := h.block h0
    have HC := hid hc
    obtain ⟨m, rfl⟩ : ∃ m, n = m + 1 := ⟨n - 1, by omega⟩
    have hcm := hc m (by rw [HL.out]; omega)
    obtain ⟨x, hx⟩ : ∃ x, x = xs[m]'(by rw [HL.out]; omega) := ⟨_, rfl⟩
    rw [← hx] at hcm
    have HX : Hid (xs.getLast? = some x) := hid (by
      rw [List.getLast?_eq_getElem?, List.getElem?_eq_getElem (by rw [HL.out]; omega), hx]
      congr 2
      have := HL.out
      omega)
    clear hx hc h
    have h0' : (0 : Int) < (m : Int) + 1 := by omega
    replace h1' : ¬ (64 : Int) < (m : Int) + 1 := by omega
    by_cases hz : x = 0
    · have HZ := hid hz
      rw [hz] at hcm
      clear hz
      rw [decide_eq_false (fun (h : RightZ 1048576 xs) => h.last (by rw [HX.out, HZ.out]))]
      go_enter Tryz.func67, Tryz.ntmps67
      go_wp2
      go_ret
      exact ⟨rfl, rfl⟩
    have HZ : Hid (xs.getLast? ≠ some 0) := hid (by rw [HX.out]; simpa using hz)
    go_enter Tryz.func67, Tryz.ntmps67
    go_wp2
    go_loop [3] (fun i => ∃ k : Nat, k ≤ m + 1 ∧ i = .int .i64 k ∧ Hid (∀ j (hj : j < xs.length), j < k → okE xs[j])) (fun i => m + 1 - (intOf i).toNat)
    case atStart => exact ⟨0, Nat.zero_le _, rfl, hid fun j _ h => by omega⟩
    case round =>
      obtain ⟨k, hk, rfl, HK⟩ := hrel
      by_cases hlt : k < m + 1
      · have hi : k < xs.length := by rw [HL.out]; exact hlt
        have hki : (k : Int) < ((m + 1 : Nat) : Int) := by omega
        have hci := HC.out k hi
        obtain ⟨y, hy⟩ : ∃ y, y = xs[k] := ⟨_, rfl⟩
        rw [← hy] at hci
        have HY := hid hy
        clear hy
        by_cases g1 : y < 0
        · go_wp2
          go_ret
          have : ¬ RightZ 1048576 xs := fun h => by
            have := h.bound _ (List.getElem_mem hi)
            rw [← HY.out] at this; omega
          rw [decide_eq_false this]
          exact ⟨rfl, rfl⟩
        · by_cases g2 : 1048576 < y
          · go_wp2
            go_ret
            have : ¬ RightZ 1048576 xs := fun h => by
              have := h.bound _ (List.getElem_mem hi)
              rw [← HY.out] at this; omega
            rw [decide_eq_false this]
            exact ⟨rfl, rfl⟩
          · go_wp2
            refine ⟨⟨k + 1, by omega, rfl, hid fun j hj hjk => ?_⟩, by simp [intOf]; omega⟩
            by_cases e : j = k
            · subst e; rw [← HY.out]; exact ⟨by omega, by omega⟩
            · exact HK.out j hj (by omega)
      · obtain rfl : k = m + 1 := by omega
        go_wp2
        go_ret
        have : RightZ 1048576 xs := ⟨by rw [HL.out]; omega, HZ.out, fun v hv => by
          obtain ⟨j, hj, rfl⟩ := List.getElem_of_mem hv
          exact HK.out j hj (by rw [← HL.out]; exact hj)⟩
        rw [decide_eq_true this]
        exact ⟨rfl, rfl⟩
end Go.Proofs.YtknmdmofmcfjhaaGreatDoor

set_option linter.unusedVariables false
set_option linter.unusedSimpArgs false
namespace Go.Proofs.YtknmdmofmcfjhaaGreatDoor
open Go.RowKit Nm

theorem infoInt : (Tryz.prog.info? 3).map (fun i => (i.zero, i.size, i.bytes)) = some (some (.int .i64 0), 1, 8) := by kernel_rfl
/-- a call returns a new slice that reads as xs -/
def ZRes (w : World) (xs : List Int) (e : Ending) (w' : World) : Prop := ∃ p c, e = .returned (.slice p xs.length c) ∧ ZRd w' .i64 p xs.length c xs ∧ w.grownBy w' none
theorem fadd_any (x y : Int) (w : World) (h : -1099511627776 ≤ x ∧ x ≤ 1099511627776 ∧ -1099511627776 ≤ y ∧ y ≤ 1099511627776) :
    Calls Tryz.prog 196 #[.int .i64 x, .int .i64 y] w fun e w' => e = .returned (.int .i64 (x + y)) ∧ w = w' := by
  obtain ⟨h1, h2, h3, h4⟩ := h
  go_enter Tryz.func196, Tryz.ntmps196
  go_wp2
  go_ret
  exact ⟨rfl, rfl⟩
set_option maxHeartbeats 1000000 in
theorem combineAdd_any (f : Int → Int → Int) (a b : Option Addr) (n m c d : Nat) (xs ys : List Int) (w : World) (h : ZRd w .i64 a n c xs) (k : ZRd w .i64 b m d ys) (hn : n ≤ 1000) (hm : m ≤ 1000)
    (hF : ∀ i (w : World), Calls Tryz.prog 196 #[.int .i64 (ex xs i), .int .i64 (ex ys i)] w fun e w' => e = .returned (.int .i64 (f (ex xs i) (ex ys i))) ∧ w = w') :
    Calls Tryz.prog 195 #[.slice a n c, .slice b m d, .func (.func 196) #[] #[]] w (ZRes w (trimZ (combZ f xs ys))) := by
  have HL := hid h.len
  have KL := hid k.len
  have hcap := h.cap
  have hmax := h.max
  have kcap := k.cap
  have kmax := k.max
  have HF := hid hF
  clear hF
  obtain ⟨q, hq⟩ : ∃ q, q = max n m := ⟨_, rfl⟩
  have hqi : max (n : Int) (m : Int) = (q : Int) := by omega
  have hqb : q ≤ 1000 := by omega
  have hnq : n ≤ q := by omega
  have hmq : m ≤ q := by omega
  have HQ := hid hq
  clear hq
  go_enter Tryz.func195, Tryz.ntmps195
  go_wp2_with (at_make; refine wz_make _ rfl _ _ 31 rfl 3 .i64 8 Tryz.underlying31 infoInt _ _ _ _ rfl rfl q (by omega) (by omega) (by omega) (by omega) ?_; intro w1 hr1 hg1)
  clear hqi
  obtain ⟨g, hg⟩ : ∃ g, g = w.heap.size := ⟨_, rfl⟩
  rw [← hg] at hr1 ⊢
  have HG := hid hg
  clear hg
  go_loopw [20] (fun i wr => ∃ k : Nat, ∃ cur : List Int, k ≤ q ∧ i = .int .i64 k ∧ ZRow wr g 3 .i64 cur ∧ w1.grownBy wr (some g) ∧ Hid (cur.length = q ∧ ∀ j, j < k → cur[j]? = some (f (ex xs j) (ex ys j))))
    (fun i _ => q - (intOf i).toNat)
  case atStart => exact ⟨0, _, Nat.zero_le _, rfl, hr1, grown_refl _ _, hid ⟨by simp, fun j hj => by omega⟩⟩
  case round =>
    obtain ⟨i, cur, hi, rfl, hrow, hgr, HC⟩ := hrel
    by_cases hlt : i < q
    · have hcl : i < cur.length := by rw [HC.out.1]; exact hlt
      have hcc := hrow.cell i hcl
      have hfr := hrow.free i
      obtain ⟨y, hy⟩ : ∃ y, y = cur[i] := ⟨_, rfl⟩
      rw [← hy] at hcc
      clear hy
      have R := HF.out i wr
      have hli : (i : Int) < (q : Int) := by omega
      have done : ∀ v, v = f (ex xs i) (ex ys i) → ∃ (k : Nat) (cur' : List Int), k ≤ q ∧ (Value.int .i64 ((i : Int) + 1)) = .int .i64 k ∧ ZRow (wr.setCell ⟨g, i, none⟩ (.int .i64 v)) g 3 .i64 cur' ∧ w1.grownBy (wr.setCell ⟨g, i, none⟩ (.int .i64 v)) (some g) ∧ Hid (cur'.length = q ∧ ∀ j, j < k → cur'[j]? = some (f (ex xs j) (ex ys j))) := by
        rintro _ rfl
        refine ⟨i + 1, _, by omega, by simp, hrow.set i _, grown_trans hgr (grown_setCell _ _ _), hid ⟨by simpa using HC.out.1, fun j hj => ?_⟩⟩
        by_cases hjk : j = i
        · subst hjk; rw [List.getElem?_set_self hcl]
        · rw [List.getElem?_set_ne (Ne.symm hjk)]
          exact HC.out.2 j (by omega)
      generalize hv : f (ex xs i) (ex ys i) = v at R
      have DONE := hid (done v hv.symm)
      clear done hv
      have keep : ∀ {z : Option Addr} {l cc : Nat} {zs : List Int}, ZRd w .i64 z l cc zs → ∀ j (hj : j < zs.length), ∃ b o, z = some ⟨b, o, none⟩ ∧ wr.cell? ⟨b, o + j, none⟩ = some (.int .i64 zs[j]) := by
        intro z l cc zs hz j hj
        obtain ⟨b, o, rfl, hc⟩ := hz.cel j hj
        refine ⟨b, o, rfl, hgr.cell (hg1.cell hc (by simp)) ?_⟩
        intro e
        have := World.block_lt_of_cell? _ _ hc
        have h2 := HG.out
        simp at e this; omega
      by_cases h1 : i < n
      · have h1' : (i : Int) < (n : Int) := by omega
        obtain ⟨b1, o1, rfl, hc1⟩ := keep h i (by rw [HL.out]; exact h1)
        rw [ex_lt (by rw [HL.out]; exact h1)] at R
        by_cases h2 : i < m
        · have h2' : (i : Int) < (m : Int) := by omega
          obtain ⟨b2, o2, rfl, hc2⟩ := keep k i (by rw [KL.out]; exact h2)
          rw [ex_lt (by rw [KL.out]; exact h2)] at R
          have RR := hid R
          clear R keep h k
          generalize xs[i]'_ = x1 at *
          generalize ys[i]'_ = x2 at *
          go_wp2_with (go_at_call 196; (with_reducible refine (RR.out).mono ?_); rintro e w' ⟨rfl, rfl⟩)
          exact ⟨DONE.out, by simp [intOf]; omega⟩
        · have h2' : ¬ (i : Int) < (m : Int) := by omega
          rw [ex_ge (xs := ys) (by rw [KL.out]; omega)] at R
          have RR := hid R
          clear R keep h k
          generalize xs[i]'_ = x1 at *
          go_wp2_with (go_at_call 196; (with_reducible refine (RR.out).mono ?_); rintro e w' ⟨rfl, rfl⟩)
          exact ⟨DONE.out, by simp [intOf]; omega⟩
      · have h1' : ¬ (i : Int) < (n : Int) := by omega
        rw [ex_ge (xs := xs) (by rw [HL.out]; omega)] at R
        by_cases h2 : i < m
        · have h2' : (i : Int) < (m : Int) := by omega
          obtain ⟨b2, o2, rfl, hc2⟩ := keep k i (by rw [KL.out]; exact h2)
          rw [ex_lt (by rw [KL.out]; exact h2)] at R
          have RR := hid R
          clear R keep h k
          generalize ys[i]'_ = x2 at *
          go_wp2_with (go_at_call 196; (with_reducible refine (RR.out).mono ?_); rintro e w' ⟨rfl, rfl⟩)
          exact ⟨DONE.out, by simp [intOf]; omega⟩
        · have := HQ.out
          omega
    · obtain rfl : i = q := by omega
      have e : cur = combZ f xs ys := by
        apply List.ext_getElem (by rw [HC.out.1, combZ_length, HL.out, KL.out]; exact HQ.out)
        intro j h1 h2
        have := HC.out.2 j (by rw [HC.out.1] at h1; exact h1)
        rw [List.getElem?_eq_getElem h1] at this
        simp only [Option.some.injEq] at this
        rw [this]; simp [combZ]
      have hrd := hrow.rd0 (by rw [HC.out.1]; omega)
      rw [HC.out.1, e] at hrd
      have R := hid (trimM_any _ _ _ _ _ hrd)
      have hT := hrd.take (trimZ (combZ f xs ys)).length (by rw [← hrd.len]; exact trimZ_length_le _)
      rw [← trimZ_eq_take] at hT
      have HT := hid hT
      have GG := hid (grown_new hg1 hgr (fun g' e' => by cases e'; rw [HG.out]; exact Nat.le_refl _))
      clear hrd e hT
      go_wp2_with (go_at_call 115; (with_reducible refine (R.out).mono ?_); rintro e w' ⟨rfl, rfl⟩)
      go_ret
      exact ⟨_, _, rfl, HT.out, GG.out⟩
end Go.Proofs.YtknmdmofmcfjhaaGreatDoor

set_option linter.unusedVariables false
set_option linter.unusedSimpArgs false
namespace Go.Proofs.YtknmdmofmcfjhaaGreatDoor
open Go.RowKit Nm

theorem _root_.Nm.RightZ.room {B : Int} {xs : List Int} (h : RightZ B xs) (hB : 0 ≤ B ∧ B ≤ 1099511627776) (i : Nat) : -1099511627776 ≤ ex xs i ∧ ex xs i ≤ 1099511627776 := by
  have := h.ex hB.1 i; omega
theorem mul_any (a b : Option Addr) (n m c d : Nat) (xs ys : List Int) (w : World) (h : ZRd w .i64 a n c xs) (k : ZRd w .i64 b m d ys) {B C : Int} (hx : RightZ B xs) (hy : RightZ C ys) (hB : 0 ≤ B ∧ B ≤ 1099511627776) (hC : 0 ≤ C ∧ C ≤ 1099511627776) :
    Calls Tryz.prog 172 #[.slice a n c, .slice b m d] w (ZRes w (trimZ (combZ (· + ·) xs ys))) := by
  have R := hid (combineAdd_any (· + ·) a b n m c d xs ys w h k (by have := hx.len; have := h.len; omega) (by have := hy.len; have := k.len; omega)
    (fun i w => fadd_any _ _ _ ⟨(hx.room hB i).1, (hx.room hB i).2, (hy.room hC i).1, (hy.room hC i).2⟩))
  go_enter Tryz.func172, Tryz.ntmps172
  go_wp2_with fail
  refine (R.out).mono ?_
  rintro e w' ⟨p, cc, rfl, hr, hg⟩
  go_wp2
  go_ret
  exact ⟨p, cc, rfl, hr, hg⟩
def cop (xs ys : List Int) : Prop := ∀ i, ex xs i = 0 ∨ ex ys i = 0
theorem cop_iff {xs ys : List Int} : cop xs ys ↔ ∀ j, j < xs.length → (ex xs j = 0 ∨ ex ys j = 0) := by
  refine ⟨fun h j _ => h j, fun h i => ?_⟩
  rcases Nat.lt_or_ge i xs.length with hi | hi
  · exact h i hi
  · exact .inl (ex_ge hi)
instance (xs ys : List Int) : Decidable (cop xs ys) := decidable_of_iff (∀ j, j < xs.length → (ex xs j = 0 ∨ ex ys j = 0)) cop_iff.symm
end Go.Proofs.YtknmdmofmcfjhaaGreatDoor

set_option linter.unusedVariables false
set_option linter.unusedSimpArgs false
namespace Go.Proofs.YtknmdmofmcfjhaaGreatDoor
open Go.RowKit Nm

/-- whether two monomials are equal -/
theorem sameM_any (a b : Option Addr) (n m c d : Nat) (xs ys : List Int) (w : World) (h : ZRd w .i64 a n c xs) (k : ZRd w .i64 b m d ys) :
    Calls Tryz.prog 42 #[.slice a n c, .slice b m d] w fun e w' => e = .returned (.bool (decide (xs = ys))) ∧ w.grownBy w' none := by
  have HL := hid h.len
  have KL := hid k.len
  have hcap := h.cap
  have hmax := h.max
  have kcap := k.cap
  have kmax := k.max
  by_cases hnm : n = m
  · subst hnm
    have hne : (((n : Int) != (n : Int)) = false) := by simp
    go_enter Tryz.func42, Tryz.ntmps42
    go_wp2
    go_loopw [5] (fun i wr => ∃ j : Nat, j ≤ n ∧ i = .int .i64 j ∧ w.grownBy wr none ∧ Hid (∀ i (h1 : i < xs.length) (h2 : i < ys.length), i < j → xs[i] = ys[i])) (fun i _ => n - (intOf i).toNat)
    case atStart => exact ⟨0, Nat.zero_le _, rfl, grown_refl _ _, hid fun i _ _ h => by omega⟩
    case round =>
      obtain ⟨j, hj, rfl, hgr, HK⟩ := hrel
      by_cases hlt : j < n
      · have hi : j < xs.length := by rw [HL.out]; exact hlt
        have hk : j < ys.length := by rw [KL.out]; exact hlt
        obtain ⟨b1, o1, rfl, hci0⟩ := h.cel j hi
        have hci := hgr.cell hci0 (by simp)
        obtain ⟨b2, o2, rfl, hck0⟩ := k.cel j hk
        have hck := hgr.cell hck0 (by simp)
        have hji : (j : Int) < (n : Int) := by omega
        obtain ⟨x, hx⟩ : ∃ x, x = xs[j] := ⟨_, rfl⟩
        obtain ⟨y, hy⟩ : ∃ y, y = ys[j] := ⟨_, rfl⟩
        rw [← hx] at hci
        rw [← hy] at hck
        have HX := hid hx
        have HY := hid hy
        clear hx hy hci0 hck0 h k
        by_cases hg : x = y
        · have ST : Hid (∀ i (h1 : i < xs.length) (h2 : i < ys.length), i < j + 1 → xs[i] = ys[i]) := hid fun i h1 h2 h3 => by
            by_cases e : i = j
            · subst e; rw [← HX.out, ← HY.out]; exact hg
            · exact HK.out i h1 h2 (by omega)
          subst hg
          have hxx : (((x : Int) != (x : Int)) = false) := by simp
          go_wp2
          go_quiet (fail)
          go_wp2
          exact ⟨⟨j + 1, by omega, rfl, gdN hgr _, ST⟩, by simp [intOf]; omega⟩
        · have ST : Hid (decide (xs = ys) = false) := hid (by
            refine decide_eq_false fun e => hg ?_
            rw [HX.out, HY.out]; subst e; rfl)
          have hxx : (((x : Int) != (y : Int)) = true) := by simpa using hg
          clear hg
          go_wp2
          go_quiet (fail)
          go_wp2
          go_ret
          rw [ST.out]
          exact ⟨rfl, gdN hgr _⟩
      · obtain rfl : j = n := by omega
        go_wp2
        go_ret
        have : xs = ys := List.ext_getElem (by rw [HL.out, KL.out]) fun i h1 h2 => HK.out i h1 h2 (by rw [← HL.out]; exact h1)
        rw [decide_eq_true this]
        exact ⟨rfl, hgr⟩
  · have hne : (((n : Int) != (m : Int)) = true) := by simp; omega
    rw [decide_eq_false (fun (e : xs = ys) => hnm (by rw [← HL.out, ← KL.out, e]))]
    clear hnm
    go_enter Tryz.func42, Tryz.ntmps42
    go_wp2
    go_ret
    exact ⟨rfl, grown_refl _ _⟩
end Go.Proofs.YtknmdmofmcfjhaaGreatDoor

set_option linter.unusedVariables false
set_option linter.unusedSimpArgs false
namespace Go.Proofs.YtknmdmofmcfjhaaGreatDoor
open Go.RowKit Nm

/-- a copy -/
theorem cloneM_any (a : Option Addr) (n c : Nat) (xs : List Int) (w : World) (h : ZRd w .i64 a n c xs) (hn : n ≤ 1000000) :
    Calls Tryz.prog 116 #[.slice a n c] w (ZRes w xs) := by
  have HL := hid h.len
  have hcap := h.cap
  have hmax := h.max
  cases a with
  | none =>
    have h0 : n = 0 := by
      rcases Nat.eq_zero_or_pos n with h0 | h0
      · exact h0
      · obtain ⟨b, o, e, _⟩ := h.block h0
        cases e
    subst h0
    obtain rfl : xs = [] := List.eq_nil_of_length_eq_zero HL.out
    have hq : ∀ w : World, (binOp .eql 31 (.slice none 0 c) (.slice none 0 0)).run Tryz.prog w = .ok (.bool true) w := fun w => Lib.run_eql_slice_nil w _ _ _ _ _ _ _ Tryz.underlying31
    go_enter Tryz.func116, Tryz.ntmps116
    go_wp2
    go_ret
    exact ⟨none, 0, rfl, ZRd.nil _ _, grown_refl _ _⟩
  | some q =>
    have hq : ∀ w : World, (binOp .eql 31 (.slice (some q) n c) (.slice none 0 0)).run Tryz.prog w = .ok (.bool false) w := fun w => Lib.run_eql_slice_nil w _ _ _ _ _ _ _ Tryz.underlying31
    go_enter Tryz.func116, Tryz.ntmps116
    go_wp2_with (refine wz_append _ rfl (.tmp 5) (.tmp 6) 31 rfl 3 .i64 8 Tryz.underlying31 infoInt w.heap.size _ 0 0 [] rfl (ZOwn.made w w.heap.size 3 .i64 [] (Nat.le_refl _) (by simp)) _ n c xs rfl (h.keep (World.grownBy_alloc _ _ _)) (by omega) (by omega) w (World.grownBy_alloc _ _ _) (Nat.le_refl _) (by simp) ?_; intro p' c2 w1 ho hg)
    go_ret
    have := ho.rd
    simp only [List.nil_append, Nat.zero_add] at this
    exact ⟨p', c2, by rw [HL.out]; simp, by rw [HL.out]; exact this, hg⟩
end Go.Proofs.YtknmdmofmcfjhaaGreatDoor

set_option linter.unusedVariables false
set_option linter.unusedSimpArgs false
namespace Go.Proofs.YtknmdmofmcfjhaaGreatDoor
open Go.RowKit Nm

theorem _root_.Nm.RightZ.deg {B : Int} {xs : List Int} (hx : RightZ B xs) (hB : 0 ≤ B ∧ B ≤ 4294967296) : 0 ≤ degZ xs ∧ degZ xs ≤ 274877906944 := by
  have h1 := sumN_nonneg (fun i => (hx.ex hB.1 i).1) xs.length
  have h2 := sumN_le (fun i => (hx.ex hB.1 i).2) xs.length
  have h3 := hx.len
  have h4 : (xs.length : Int) * B ≤ 64 * B := Int.mul_le_mul_of_nonneg_right (by omega) hB.1
  unfold degZ
  omega
set_option maxHeartbeats 1000000 in
theorem cmpM_any (a b : Option Addr) (n m c d : Nat) (xs ys : List Int) (o : Int) (w : World) (h : ZRd w .i64 a n c xs) (k : ZRd w .i64 b m d ys) {B C : Int} (hx : RightZ B xs) (hy : RightZ C ys) (hB : 0 ≤ B ∧ B ≤ 4294967296) (hC : 0 ≤ C ∧ C ≤ 4294967296) :
    Calls Tryz.prog 79 #[.slice a n c, .slice b m d, .int .i64 o] w fun e w' => e = .returned (.int .i64 (ordZ o xs ys)) ∧ w = w' := by
  have HL := hid h.len
  have KL := hid k.len
  have hcap := h.cap
  have hmax := h.max
  have kcap := k.cap
  have kmax := k.max
  have hn : n ≤ 64 := by rw [← HL.out]; exact hx.len
  have hm : m ≤ 64 := by rw [← KL.out]; exact hy.len
  have XB := hid (fun i => hx.room ⟨hB.1, by omega⟩ i)
  have YB := hid (fun i => hy.room ⟨hC.1, by omega⟩ i)
  have DX := hx.deg hB
  have DY := hy.deg hC
  obtain ⟨d1, d2⟩ := DX
  obtain ⟨d3, d4⟩ := DY
  have R1 := hid (fun i => exp_nat a n c xs w h i)
  have R2 := hid (fun i => exp_nat b m d ys w k i)
  have D1 := hid (degree_any a n c xs w h hx hB)
  have D2 := hid (degree_any b m d ys w k hy hC)
  obtain ⟨q, hq⟩ : ∃ q, q = max n m := ⟨_, rfl⟩
  have hqi : max (n : Int) (m : Int) = (q : Int) := by omega
  have hqb : q ≤ 64 := by omega
  have HLL : Hid (lexL xs ys = lexZ (ex xs) (ex ys) q) := hid (lexL_of xs ys (by rw [HL.out]; omega) (by rw [KL.out]; omega))
  clear hq hx hy h k
  by_cases ho : o = 1
  · by_cases hd : degZ xs = degZ ys
    · rw [show ordZ o xs ys = lexL xs ys from if_neg (fun h => h.2 hd)]
      subst ho
      rw [← hd] at D2
      have C : Hid (∀ W : World, Calls Tryz.prog 130 #[.int .i64 (degZ xs), .int .i64 (degZ xs)] W fun e w' => e = .returned (.int .i64 0) ∧ W = w') := hid (fun W => by have := cmpZ_any (degZ xs) (degZ xs) W; rwa [cmpZ_self] at this)
      clear hd
      generalize degZ xs = dx at *
      go_enter Tryz.func79, Tryz.ntmps79
      go_wp2_with (first
        | (go_at_call 98; (with_reducible refine (D1.out).mono ?_); rintro e w' ⟨rfl, rfl⟩)
        | (go_at_call 98; (with_reducible refine (D2.out).mono ?_); rintro e w' ⟨rfl, rfl⟩)
        | (go_at_call 130; (with_reducible refine (C.out _).mono ?_); rintro e w' ⟨rfl, rfl⟩))
      clear hqi C
      go_loop [8] (fun i => ∃ k : Nat, k ≤ q ∧ i = .int .i64 ((k : Int) - 1) ∧ Hid (lexL xs ys = lexZ (ex xs) (ex ys) k)) (fun i => (intOf i + 1).toNat)
      case atStart => exact ⟨q, Nat.le_refl _, rfl, HLL⟩
      case round =>
        obtain ⟨k, hk, rfl, HK⟩ := hrel
        by_cases h0 : 0 < k
        · obtain ⟨i, rfl⟩ : ∃ i, k = i + 1 := ⟨k - 1, by omega⟩
          have L1 := R1.out i
          have L2 := R2.out i
          have B1 := XB.out i
          have B2 := YB.out i
          have hst : lexZ (ex xs) (ex ys) (i + 1) = if ex xs i = ex ys i then lexZ (ex xs) (ex ys) i else cmpZ (ex xs i) (ex ys i) := rfl
          have hi0 : (0 : Int) ≤ (i : Int) := by omega
          generalize ex xs i = x at *
          generalize ex ys i = y at *
          obtain ⟨b1, b2⟩ := B1
          obtain ⟨b3, b4⟩ := B2
          by_cases e : x = y
          · subst e
            rw [if_pos rfl] at hst
            have HK2 : Hid (lexL xs ys = lexZ (ex xs) (ex ys) i) := hid (by rw [HK.out, hst])
            clear hst
            have H1 := hid L1
            have H2 := hid L2
            clear L1 L2
            have C : Hid (∀ W : World, Calls Tryz.prog 130 #[.int .i64 x, .int .i64 x] W fun e w' => e = .returned (.int .i64 0) ∧ W = w') := hid (fun W => by have := cmpZ_any x x W; rwa [cmpZ_self] at this)
            go_wp2_with (first
              | (go_at_call 131; (with_reducible refine (H1.out).mono ?_); rintro e w' ⟨rfl, rfl⟩)
              | (go_at_call 131; (with_reducible refine (H2.out).mono ?_); rintro e w' ⟨rfl, rfl⟩)
              | (go_at_call 130; (with_reducible refine (C.out _).mono ?_); rintro e w' ⟨rfl, rfl⟩))
            exact ⟨⟨i, by omega, rfl, HK2⟩, by simp [intOf]⟩
          · rw [if_neg e] at hst
            have HK2 : Hid (lexL xs ys = cmpZ x y) := hid (by rw [HK.out, hst])
            clear hst
            have H1 := hid L1
            have H2 := hid L2
            clear L1 L2
            have hz : cmpZ x y ≠ 0 := fun h => e ((cmpZ_zero x y).1 h)
            have C := hid (fun W => cmpZ_any x y W)
            generalize cmpZ x y = z at *
            have hz2 : ((z : Int) != 0) = true := by simpa using hz
            clear e hz
            go_wp2_with (first
              | (go_at_call 131; (with_reducible refine (H1.out).mono ?_); rintro e w' ⟨rfl, rfl⟩)
              | (go_at_call 131; (with_reducible refine (H2.out).mono ?_); rintro e w' ⟨rfl, rfl⟩)
              | (go_at_call 130; (with_reducible refine (C.out _).mono ?_); rintro e w' ⟨rfl, rfl⟩))
            go_ret
            rw [HK2.out]
            exact ⟨rfl, rfl⟩
        · obtain rfl : k = 0 := by omega
          go_wp2
          go_ret
          rw [HK.out]
          exact ⟨rfl, rfl⟩
    · rw [show ordZ o xs ys = cmpZ (degZ xs) (degZ ys) from if_pos ⟨ho, hd⟩]
      subst ho
      have hz : cmpZ (degZ xs) (degZ ys) ≠ 0 := fun h => hd ((cmpZ_zero _ _).1 h)
      have C := hid (fun W => cmpZ_any (degZ xs) (degZ ys) W)
      generalize cmpZ (degZ xs) (degZ ys) = z at *
      have hz2 : ((z : Int) != 0) = true := by simpa using hz
      clear hz hd
      generalize degZ xs = dx at *
      generalize degZ ys = dy at *
      go_enter Tryz.func79, Tryz.ntmps79
      go_wp2_with (first
        | (go_at_call 98; (with_reducible refine (D1.out).mono ?_); rintro e w' ⟨rfl, rfl⟩)
        | (go_at_call 98; (with_reducible refine (D2.out).mono ?_); rintro e w' ⟨rfl, rfl⟩)
        | (go_at_call 130; (with_reducible refine (C.out _).mono ?_); rintro e w' ⟨rfl, rfl⟩))
      go_ret
      exact ⟨rfl, rfl⟩
  · rw [show ordZ o xs ys = lexL xs ys from if_neg (fun h => ho h.1)]
    have ho2 : ((o : Int) == 1) = false := by simpa using ho
    go_enter Tryz.func79, Tryz.ntmps79
    go_wp2
    clear hqi
    go_loop [8] (fun i => ∃ k : Nat, k ≤ q ∧ i = .int .i64 ((k : Int) - 1) ∧ Hid (lexL xs ys = lexZ (ex xs) (ex ys) k)) (fun i => (intOf i + 1).toNat)
    case atStart => exact ⟨q, Nat.le_refl _, rfl, HLL⟩
    case round =>
      obtain ⟨k, hk, rfl, HK⟩ := hrel
      by_cases h0 : 0 < k
      · obtain ⟨i, rfl⟩ : ∃ i, k = i + 1 := ⟨k - 1, by omega⟩
        have L1 := R1.out i
        have L2 := R2.out i
        have B1 := XB.out i
        have B2 := YB.out i
        have hst : lexZ (ex xs) (ex ys) (i + 1) = if ex xs i = ex ys i then lexZ (ex xs) (ex ys) i else cmpZ (ex xs i) (ex ys i) := rfl
        have hi0 : (0 : Int) ≤ (i : Int) := by omega
        generalize ex xs i = x at *
        generalize ex ys i = y at *
        obtain ⟨b1, b2⟩ := B1
        obtain ⟨b3, b4⟩ := B2
        by_cases e : x = y
        · subst e
          rw [if_pos rfl] at hst
          have HK2 : Hid (lexL xs ys = lexZ (ex xs) (ex ys) i) := hid (by rw [HK.out, hst])
          clear hst
          have H1 := hid L1
          have H2 := hid L2
          clear L1 L2
          have C : Hid (∀ W : World, Calls Tryz.prog 130 #[.int .i64 x, .int .i64 x] W fun e w' => e = .returned (.int .i64 0) ∧ W = w') := hid (fun W => by have := cmpZ_any x x W; rwa [cmpZ_self] at this)
          go_wp2_with (first
            | (go_at_call 131; (with_reducible refine (H1.out).mono ?_); rintro e w' ⟨rfl, rfl⟩)
            | (go_at_call 131; (with_reducible refine (H2.out).mono ?_); rintro e w' ⟨rfl, rfl⟩)
            | (go_at_call 130; (with_reducible refine (C.out _).mono ?_); rintro e w' ⟨rfl, rfl⟩))
          exact ⟨⟨i, by omega, rfl, HK2⟩, by simp [intOf]⟩
        · rw [if_neg e] at hst
          have HK2 : Hid (lexL xs ys = cmpZ x y) := hid (by rw [HK.out, hst])
          clear hst
          have H1 := hid L1
          have H2 := hid L2
          clear L1 L2
          have hz : cmpZ x y ≠ 0 := fun h => e ((cmpZ_zero x y).1 h)
          have C := hid (fun W => cmpZ_any x y W)
          generalize cmpZ x y = z at *
          have hz2 : ((z : Int) != 0) = true := by simpa using hz
          clear e hz
          go_wp2_with (first
            | (go_at_call 131; (with_reducible refine (H1.out).mono ?_); rintro e w' ⟨rfl, rfl⟩)
            | (go_at_call 131; (with_reducible refine (H2.out).mono ?_); rintro e w' ⟨rfl, rfl⟩)
            | (go_at_call 130; (with_reducible refine (C.out _).mono ?_); rintro e w' ⟨rfl, rfl⟩))
          go_ret
          rw [HK2.out]
          exact ⟨rfl, rfl⟩
      · obtain rfl : k = 0 := by omega
        go_wp2
        go_ret
        rw [HK.out]
        exact ⟨rfl, rfl⟩
set_option maxHeartbeats 1000000 in
theorem rcmpM_any (a b : Option Addr) (n m c d : Nat) (xs ys : List Int) (o : Int) (w : World) (h : ZRd w .i64 a n c xs) (k : ZRd w .i64 b m d ys) {B C : Int} (hx : RightZ B xs) (hy : RightZ C ys) (hB : 0 ≤ B ∧ B ≤ 4294967296) (hC : 0 ≤ C ∧ C ≤ 4294967296) :
    Calls Tryz.prog 68 #[.slice a n c, .slice b m d, .int .i64 o] w fun e w' => e = .returned (.int .i64 (ordZ o xs ys)) ∧ w = w' := by
  have HL := hid h.len
  have KL := hid k.len
  have hcap := h.cap
  have hmax := h.max
  have kcap := k.cap
  have kmax := k.max
  have hn : n ≤ 64 := by rw [← HL.out]; exact hx.len
  have hm : m ≤ 64 := by rw [← KL.out]; exact hy.len
  have XB := hid (fun i => hx.room ⟨hB.1, by omega⟩ i)
  have YB := hid (fun i => hy.room ⟨hC.1, by omega⟩ i)
  have DX := hx.deg hB
  have DY := hy.deg hC
  obtain ⟨d1, d2⟩ := DX
  obtain ⟨d3, d4⟩ := DY
  have R1 := hid (fun i => rexp_nat a n c xs w h i)
  have R2 := hid (fun i => rexp_nat b m d ys w k i)
  have D1 := hid (rdegree_any a n c xs w h hx hB)
  have D2 := hid (rdegree_any b m d ys w k hy hC)
  obtain ⟨q, hq⟩ : ∃ q, q = max n m := ⟨_, rfl⟩
  have hqi : max (n : Int) (m : Int) = (q : Int) := by omega
  have hqb : q ≤ 64 := by omega
  have HLL : Hid (lexL xs ys = lexZ (ex xs) (ex ys) q) := hid (lexL_of xs ys (by rw [HL.out]; omega) (by rw [KL.out]; omega))
  clear hq hx hy h k
  by_cases ho : o = 1
  · by_cases hd : degZ xs = degZ ys
    · rw [show ordZ o xs ys = lexL xs ys from if_neg (fun h => h.2 hd)]
      subst ho
      rw [← hd] at D2
      clear hd
      have hz3 : ((degZ xs : Int) != degZ xs) = false := by simp
      generalize degZ xs = dx at *
      go_enter Tryz.func68, Tryz.ntmps68
      go_wp2_with (first
        | (go_at_call 90; (with_reducible refine (D1.out).mono ?_); rintro e w' ⟨rfl, rfl⟩)
        | (go_at_call 90; (with_reducible refine (D2.out).mono ?_); rintro e w' ⟨rfl, rfl⟩))
      clear hqi
      go_loop [7] (fun i => ∃ k : Nat, k ≤ q ∧ i = .int .i64 ((k : Int) - 1) ∧ Hid (lexL xs ys = lexZ (ex xs) (ex ys) k)) (fun i => (intOf i + 1).toNat)
      case atStart => exact ⟨q, Nat.le_refl _, rfl, HLL⟩
      case round =>
        obtain ⟨k, hk, rfl, HK⟩ := hrel
        by_cases h0 : 0 < k
        · obtain ⟨i, rfl⟩ : ∃ i, k = i + 1 := ⟨k - 1, by omega⟩
          have L1 := R1.out i
          have L2 := R2.out i
          have B1 := XB.out i
          have B2 := YB.out i
          have hst : lexZ (ex xs) (ex ys) (i + 1) = if ex xs i = ex ys i then lexZ (ex xs) (ex ys) i else cmpZ (ex xs i) (ex ys i) := rfl
          have hi0 : (0 : Int) ≤ (i : Int) := by omega
          generalize ex xs i = x at *
          generalize ex ys i = y at *
          obtain ⟨b1, b2⟩ := B1
          obtain ⟨b3, b4⟩ := B2
          by_cases e : x = y
          · subst e
            rw [if_pos rfl] at hst
            have HK2 : Hid (lexL xs ys = lexZ (ex xs) (ex ys) i) := hid (by rw [HK.out, hst])
            clear hst
            have H1 := hid L1
            have H2 := hid L2
            clear L1 L2
            have hz2 : ((x : Int) != x) = false := by simp
            go_wp2_with (first
              | (go_at_call 97; (with_reducible refine (H1.out).mono ?_); rintro e w' ⟨rfl, rfl⟩)
              | (go_at_call 97; (with_reducible refine (H2.out).mono ?_); rintro e w' ⟨rfl, rfl⟩))
            exact ⟨⟨i, by omega, rfl, HK2⟩, by simp [intOf]⟩
          · rw [if_neg e] at hst
            have HK2 : Hid (lexL xs ys = cmpZ x y) := hid (by rw [HK.out, hst])
            clear hst
            have H1 := hid L1
            have H2 := hid L2
            clear L1 L2
            have C := hid (fun W => sign_any x y (x - y) W rfl)
            have hz2 : ((x : Int) != y) = true := by simpa using e
            clear e
            go_wp2_with (first
              | (go_at_call 97; (with_reducible refine (H1.out).mono ?_); rintro e w' ⟨rfl, rfl⟩)
              | (go_at_call 97; (with_reducible refine (H2.out).mono ?_); rintro e w' ⟨rfl, rfl⟩)
              | (go_at_call 126; (with_reducible refine (C.out _).mono ?_); rintro e w' ⟨rfl, rfl⟩))
            go_ret
            rw [HK2.out]
            exact ⟨rfl, rfl⟩
        · obtain rfl : k = 0 := by omega
          go_wp2
          go_ret
          rw [HK.out]
          exact ⟨rfl, rfl⟩
    · rw [show ordZ o xs ys = cmpZ (degZ xs) (degZ ys) from if_pos ⟨ho, hd⟩]
      subst ho
      have C := hid (fun W => sign_any (degZ xs) (degZ ys) (degZ xs - degZ ys) W rfl)
      generalize cmpZ (degZ xs) (degZ ys) = z at *
      have hz2 : ((degZ xs : Int) != degZ ys) = true := by simpa using hd
      clear hd
      generalize degZ xs = dx at *
      generalize degZ ys = dy at *
      go_enter Tryz.func68, Tryz.ntmps68
      go_wp2_with (first
        | (go_at_call 90; (with_reducible refine (D1.out).mono ?_); rintro e w' ⟨rfl, rfl⟩)
        | (go_at_call 90; (with_reducible refine (D2.out).mono ?_); rintro e w' ⟨rfl, rfl⟩)
        | (go_at_call 126; (with_reducible refine (C.out _).mono ?_); rintro e w' ⟨rfl, rfl⟩))
      go_ret
      exact ⟨rfl, rfl⟩
  · rw [show ordZ o xs ys = lexL xs ys from if_neg (fun h => ho h.1)]
    have ho2 : ((o : Int) == 1) = false := by simpa using ho
    go_enter Tryz.func68, Tryz.ntmps68
    go_wp2
    clear hqi
    go_loop [7] (fun i => ∃ k : Nat, k ≤ q ∧ i = .int .i64 ((k : Int) - 1) ∧ Hid (lexL xs ys = lexZ (ex xs) (ex ys) k)) (fun i => (intOf i + 1).toNat)
    case atStart => exact ⟨q, Nat.le_refl _, rfl, HLL⟩
    case round =>
      obtain ⟨k, hk, rfl, HK⟩ := hrel
      by_cases h0 : 0 < k
      · obtain ⟨i, rfl⟩ : ∃ i, k = i + 1 := ⟨k - 1, by omega⟩
        have L1 := R1.out i
        have L2 := R2.out i
        have B1 := XB.out i
        have B2 := YB.out i
        have hst : lexZ (ex xs) (ex ys) (i + 1) = if ex xs i = ex ys i then lexZ (ex xs) (ex ys) i else cmpZ (ex xs i) (ex ys i) := rfl
        have hi0 : (0 : Int) ≤ (i : Int) := by omega
        generalize ex xs i = x at *
        generalize ex ys i = y at *
        obtain ⟨b1, b2⟩ := B1
        obtain ⟨b3, b4⟩ := B2
        by_cases e : x = y
        · subst e
          rw [if_pos rfl] at hst
          have HK2 : Hid (lexL xs ys = lexZ (ex xs) (ex ys) i) := hid (by rw [HK.out, hst])
          clear hst
          have H1 := hid L1
          have H2 := hid L2
          clear L1 L2
          have hz2 : ((x : Int) != x) = false := by simp
          go_wp2_with (first
            | (go_at_call 97; (with_reducible refine (H1.out).mono ?_); rintro e w' ⟨rfl, rfl⟩)
            | (go_at_call 97; (with_reducible refine (H2.out).mono ?_); rintro e w' ⟨rfl, rfl⟩))
          exact ⟨⟨i, by omega, rfl, HK2⟩, by simp [intOf]⟩
        · rw [if_neg e] at hst
          have HK2 : Hid (lexL xs ys = cmpZ x y) := hid (by rw [HK.out, hst])
          clear hst
          have H1 := hid L1
          have H2 := hid L2
          clear L1 L2
          have C := hid (fun W => sign_any x y (x - y) W rfl)
          have hz2 : ((x : Int) != y) = true := by simpa using e
          clear e
          go_wp2_with (first
            | (go_at_call 97; (with_reducible refine (H1.out).mono ?_); rintro e w' ⟨rfl, rfl⟩)
            | (go_at_call 97; (with_reducible refine (H2.out).mono ?_); rintro e w' ⟨rfl, rfl⟩)
            | (go_at_call 126; (with_reducible refine (C.out _).mono ?_); rintro e w' ⟨rfl, rfl⟩))
          go_ret
          rw [HK2.out]
          exact ⟨rfl, rfl⟩
      · obtain rfl : k = 0 := by omega
        go_wp2
        go_ret
        rw [HK.out]
        exact ⟨rfl, rfl⟩
end Go.Proofs.YtknmdmofmcfjhaaGreatDoor
