/-
  Memory, continued: the same for rows and slices of numbers that may be negative (all lists are lists of integers). No program is mentioned here.
-/
import Derived.Test.YtdmlcddieadelaaMem
import Derived.Test.YtdmlcddieadelaaOwn
set_option linter.unusedVariables false
set_option linter.unusedSimpArgs false
namespace Nm
open Go Go.RowKit

/-- a number of kind k as a value -/
abbrev zv (k : IntKind) (n : Int) : Value := .int k n

/-- block g of w is an unfrozen row of numbers of kind k, of the element type e -/
def ZRow (w : World) (g : Nat) (e : TypeId) (k : IntKind) (xs : List Int) : Prop :=
  w.heap[g]? = some (.cells (xs.map (zv k)).toArray e (0, 0))

section
variable {w w' : World} {g : Nat} {e : TypeId} {k : IntKind} {xs : List Int}
theorem ZRow.lt (h : ZRow w g e k xs) : g < w.heap.size := lt_of_block h
theorem ZRow.cell (h : ZRow w g e k xs) (j : Nat) (hj : j < xs.length) : w.cell? ⟨g, j, none⟩ = some (.int k xs[j]) := by
  rw [cell_of_row w g j _ _ _ h]; simp [hj]
theorem ZRow.free (h : ZRow w g e k xs) (j : Nat) : w.frozen? ⟨g, j, none⟩ = false := frozen_of_row w g j _ _ h
theorem ZRow.set (h : ZRow w g e k xs) (j : Nat) (y : Int) : ZRow (w.setCell ⟨g, j, none⟩ (.int k y)) g e k (xs.set j y) := by
  unfold ZRow at h ⊢
  rw [heap_setCell_same w g j _ _ _ h]
  simp
theorem ZRow.setv (h : ZRow w g e k xs) (j : Nat) (v : Int) (y : Int) (hv : v = y) : ZRow (w.setCell ⟨g, j, none⟩ (.int k v)) g e k (xs.set j y) := by
  subst hv; exact h.set j _
theorem ZRow.kept (h : ZRow w g e k xs) {row : Option Nat} (hg : w.grownBy w' row) (hne : some g ≠ row) : ZRow w' g e k xs :=
  (hg.block g h.lt hne).trans h
theorem ZRow.made (w : World) (e : TypeId) (k : IntKind) (xs : List Int) : ZRow (w.alloc (.cells (xs.map (zv k)).toArray e)) w.heap.size e k xs := heap_alloc_new w _
theorem ZRow.drew (h : ZRow w g e k xs) : ZRow w.drew g e k xs := h
end

/-- the address a is the head of cells that read as xs -/
def ZCel (w : World) (k : IntKind) (a : Option Addr) (xs : List Int) : Prop :=
  ∀ j (h : j < xs.length), ∃ b o, a = some ⟨b, o, none⟩ ∧ w.cell? ⟨b, o + j, none⟩ = some (.int k xs[j])

/-- .slice a n c is a slice of numbers of kind k that reads as xs -/
structure ZRd (w : World) (k : IntKind) (a : Option Addr) (n c : Nat) (xs : List Int) : Prop where
  len : xs.length = n
  cap : n ≤ c
  max : c ≤ 9223372036854775807
  cel : ZCel w k a xs

section
variable {w w' : World} {k : IntKind} {a : Option Addr} {n c : Nat} {xs : List Int}
theorem ZRd.kept (h : ZRd w k a n c xs) {row : Option Nat} (hg : w.grownBy w' row) (hne : row = none ∨ ∀ p, a = some p → some p.block ≠ row) : ZRd w' k a n c xs := by
  refine ⟨h.len, h.cap, h.max, fun j hj => ?_⟩
  obtain ⟨b, o, rfl, hc⟩ := h.cel j hj
  refine ⟨b, o, rfl, hg.cell hc ?_⟩
  rcases hne with rfl | hne
  · simp
  · exact hne ⟨b, o, none⟩ rfl
theorem ZRd.keep (h : ZRd w k a n c xs) (hg : w.grownBy w' none) : ZRd w' k a n c xs := h.kept hg (.inl rfl)
theorem ZRd.drew (h : ZRd w k a n c xs) : ZRd w.drew k a n c xs := ⟨h.len, h.cap, h.max, h.cel⟩
theorem ZRd.nil (w : World) (k : IntKind) : ZRd w k none 0 0 [] := ⟨rfl, Nat.le_refl _, by omega, fun j h => by simp at h⟩
theorem ZRd.block (h : ZRd w k a n c xs) (hn : 0 < n) : ∃ b o, a = some ⟨b, o, none⟩ ∧ b < w.heap.size ∧ ∀ j (h : j < xs.length), w.cell? ⟨b, o + j, none⟩ = some (.int k xs[j]) := by
  obtain ⟨b, o, rfl, hc⟩ := h.cel 0 (by rw [h.len]; exact hn)
  refine ⟨b, o, rfl, World.block_lt_of_cell? _ _ hc, fun j hj => ?_⟩
  obtain ⟨b', o', e, hc'⟩ := h.cel j hj
  cases e; exact hc'
/-- the first m cells -/
theorem ZRd.take (h : ZRd w k a n c xs) (m : Nat) (hm : m ≤ n) : ZRd w k a m c (xs.take m) := by
  refine ⟨by rw [List.length_take, h.len]; omega, Nat.le_trans hm h.cap, h.max, fun j hj => ?_⟩
  have hj' : j < xs.length := by rw [List.length_take] at hj; omega
  obtain ⟨b, o, e, hc⟩ := h.cel j hj'
  exact ⟨b, o, e, by rw [hc]; simp⟩
/-- cells lo to hi -/
theorem ZRd.sub (h : ZRd w k a n c xs) (lo hi c' : Nat) (h1 : lo ≤ hi) (h2 : hi ≤ n) (hc' : hi - lo ≤ c') (hm : c' ≤ 9223372036854775807) (a' : Option Addr) (ha : lo < hi → a' = a.map (·.add lo)) :
    ZRd w k a' (hi - lo) c' ((xs.drop lo).take (hi - lo)) := by
  refine ⟨by rw [List.length_take, List.length_drop, h.len]; omega, hc', hm, fun j hj => ?_⟩
  rw [List.length_take, List.length_drop, h.len] at hj
  obtain ⟨b, o, e, hc⟩ := h.cel (lo + j) (by rw [h.len]; omega)
  have ha' := ha (by omega)
  subst e
  refine ⟨b, o + lo, ?_, ?_⟩
  · rw [ha']; simp only [Option.map_some, Option.some.injEq]; unfold Addr.add; split
    · rename_i h0; subst h0; rfl
    · rfl
  · rw [show o + lo + j = o + (lo + j) by omega, hc]; simp
end

theorem ZRd.cut {w : World} {k : IntKind} {b o n c : Nat} {xs : List Int} (h : ZRd w k (some ⟨b, o, none⟩) n c xs) (lo hi c' : Nat) (h1 : lo ≤ hi) (h2 : hi ≤ n) (hc' : hi - lo ≤ c') (hm : c' ≤ 9223372036854775807) :
    ZRd w k (some ⟨b, o + lo, none⟩) (hi - lo) c' ((xs.drop lo).take (hi - lo)) :=
  h.sub lo hi c' h1 h2 hc' hm _ fun _ => by rw [Option.map_some, add_addr]

/-- a row of one's own reads as its content, from any place on -/
theorem ZRow.rd {w : World} {g : Nat} {e : TypeId} {k : IntKind} {xs : List Int} (h : ZRow w g e k xs) (o n c : Nat) (hn : o + n ≤ xs.length) (hc : n ≤ c) (hm : c ≤ 9223372036854775807) :
    ZRd w k (some ⟨g, o, none⟩) n c ((xs.drop o).take n) := by
  have hl : ((xs.drop o).take n).length = n := by simp; omega
  refine ⟨hl, hc, hm, fun j hj => ⟨g, o, rfl, ?_⟩⟩
  rw [hl] at hj
  rw [h.cell (o + j) (by omega)]
  simp
theorem ZRow.rd0 {w : World} {g : Nat} {e : TypeId} {k : IntKind} {xs : List Int} (h : ZRow w g e k xs) (hm : xs.length ≤ 9223372036854775807) :
    ZRd w k (some ⟨g, 0, none⟩) xs.length xs.length xs := by
  have := h.rd 0 xs.length xs.length (by omega) (Nat.le_refl _) hm
  simpa using this

/-! ### make, copy, append on rows of numbers -/
section
variable {P : Program} {ops : Array Oper} {rest : List Oper} {o : Oper} {a : Act} {Q : Exit → Act → World → Prop}

theorem wz_make (w : World) (hg : o.guard = none) (l c : Operand) (t : TypeId) (hop : o.op = Op.makeSlice t l c)
    (e : TypeId) (k : IntKind) (bytes : Nat) (h1 : P.underlying t = some (.slice e)) (h2 : (P.info? e).map (fun i => (i.zero, i.size, i.bytes)) = some (some (.int k 0), 1, bytes))
    (kl kc : IntKind) (L C : Int) (hl : a.eval l = .int kl L) (hc : a.eval c = .int kc C) (n : Nat) (hL : L = (n : Int)) (hC : C = (n : Int)) (b2 : bytes * n ≤ 281474976710656) (b3 : n ≤ 9223372036854775807)
    (hK : ∀ w', ZRow w' w.heap.size e k (List.replicate n 0) → w.grownBy w' none → wpList P ops Q rest (a.put o.dst (.slice (some ⟨w.heap.size, 0, none⟩) n n)) w') :
    wpList P ops Q (o :: rest) a w := by
  obtain ⟨i, hi, hz0, hz1, hz2⟩ := info_parts h2
  subst hz2
  refine wpList_make_full w hg l c t hop w.heap.size e i (.int k 0) 1 h1 hi hz0 hz1 kl kc L C n hl hc hL hC b2 (by unfold maxLen; omega) (Nat.le_refl _) fun w' ho hgr => hK w' ?_ hgr
  obtain ⟨_, h | ⟨g, cap, cur, hv, _, hh, _, _, hs, ht⟩⟩ := ho
  · simp at h
  · simp only [Value.slice.injEq, Option.some.injEq, Addr.mk.injEq, and_true, true_and] at hv
    obtain ⟨rfl, rfl⟩ := hv
    unfold ZRow
    rw [hh]
    have e1 : cur.toList = List.replicate n (.int k 0) := by
      rw [Nat.mul_one] at hs ht
      rw [List.take_of_length_le (by simp [hs])] at ht
      rw [ht]; exact toList_madeCells_one _ _
    have e2 : cur = (List.replicate n (Value.int k 0)).toArray := by rw [← e1]
    rw [e2]; simp

theorem wz_copy (w : World) (hgd : o.guard = none) (d s : Operand) (dT sT : TypeId)
    (ho : o.op = .call { callee := .builtin .copy, args := #[d, s], argTypes := #[dT, sT] }) (e : TypeId) (hu : P.underlying dT = some (.slice e)) (hsz : (P.info? e).map (·.size) = some 1)
    (k : IntKind) (dp sp : Option Addr) (dLen dCap sLen sCap : Nat) (hd : a.eval d = .slice dp dLen dCap) (hs : a.eval s = .slice sp sLen sCap)
    (g off : Nat) (t : TypeId) (cur xs : List Int) (hg : ZRow w g t k cur) (hdp : 0 < dLen → dp = some ⟨g, off, none⟩) (hx : ZRd w k sp sLen sCap xs) (hfit : off + dLen ≤ cur.length)
    (h : ∀ w', ZRow w' g t k (splice cur off (xs.take dLen)) → w.grownBy w' (some g) → wpList P ops Q rest (a.put o.dst (.int .i64 ((min sLen dLen : Nat) : Int))) w') :
    wpList P ops Q (o :: rest) a w := by
  have hlen : ((xs.take dLen).map (zv k)).length = Nat.min sLen dLen := by
    rw [List.length_map, List.length_take, hx.len, Nat.min_comm]
  by_cases h0 : Nat.min sLen dLen = 0
  · refine wpList_copy_nothing hgd d s dT sT ho e hu hsz dp sp dLen dCap sLen sCap hd hs h0 ?_
    have hm : min sLen dLen = 0 := h0
    have := h w ?_ (grown_refl _ _)
    · rw [hm] at this; exact this
    · have e1 : xs.take dLen = [] := List.eq_nil_of_length_eq_zero (by rw [List.length_take, hx.len, Nat.min_comm]; exact h0)
      rw [e1]; simpa [splice] using hg
  · have hd0 : 0 < dLen := by
      rcases Nat.eq_zero_or_pos dLen with h1 | h1
      · subst h1; exact absurd (Nat.min_zero _) h0
      · exact h1
    have hs0 : 0 < sLen := by
      rcases Nat.eq_zero_or_pos sLen with h1 | h1
      · subst h1; exact absurd (Nat.zero_min _) h0
      · exact h1
    obtain rfl := hdp hd0
    obtain ⟨b, o', rfl, _, hc⟩ := hx.block hs0
    have hcl : ((xs.take dLen).map (zv k)).length ≤ dLen := by simp; omega
    refine wpList_copy_own hgd d s dT sT ho e hu hsz g off dLen dCap ⟨b, o', none⟩ sLen sCap hd hs (cur.map (zv k)).toArray t hg ((xs.take dLen).map (zv k)) hlen ?_ (by simp at hcl ⊢; omega) ?_ ?_
    · intro j v hv
      obtain ⟨hj, rfl⟩ := List.getElem?_eq_some_iff.1 hv
      have hj' : j < xs.length := by simp at hj; omega
      have hadd : (⟨b, o', none⟩ : Addr).add j = ⟨b, o' + j, none⟩ := by unfold Addr.add; split <;> simp_all
      rw [hadd, hc j hj']; simp
    · intro v hv
      obtain ⟨n, _, rfl⟩ := List.mem_map.1 hv
      rfl
    · rw [hlen]
      refine h _ ?_ ⟨rfl, rfl, rfl, by simp [World.setRow], fun i _ hne => setRow_other w g i _ (fun e => hne (by rw [e]))⟩
      unfold ZRow
      rw [setRow_heap w g _ _ t _ hg]
      congr 2
      have := hx.len
      have e : sLen.min dLen = min sLen dLen := rfl
      simp [splice, e]; omega

end
/-- .slice a n c is nil, or the head of a row of the call's own, from block base on, whose first n cells are xs -/
def ZOwn (w : World) (base : Nat) (e : TypeId) (k : IntKind) (a : Option Addr) (n c : Nat) (xs : List Int) : Prop :=
  xs.length = n ∧ w.ownsRow base e 1 (.slice a n c) n (xs.map (zv k))

section
variable {w w' : World} {base : Nat} {e : TypeId} {k : IntKind} {a : Option Addr} {n c : Nat} {xs : List Int}
theorem ZOwn.nil (w : World) (base : Nat) (e : TypeId) (k : IntKind) : ZOwn w base e k none 0 0 [] := ⟨rfl, World.ownsRow_nil w base e 1⟩
theorem ZOwn.rd (h : ZOwn w base e k a n c xs) : ZRd w k a n c xs := by
  obtain ⟨hl, h1, h2 | ⟨g, cap, cur, hv, hb, hg, hn, hm, hs, ht⟩⟩ := h
  · obtain ⟨hv, rfl⟩ := h2
    simp only [Value.slice.injEq, true_and] at hv
    obtain ⟨rfl, rfl⟩ := hv
    obtain rfl : xs = [] := List.eq_nil_of_length_eq_zero hl
    exact ZRd.nil w k
  · simp only [Value.slice.injEq, true_and] at hv
    obtain ⟨rfl, rfl⟩ := hv
    refine ⟨hl, hn, by unfold maxLen at hm; omega, fun j hj => ⟨g, 0, rfl, ?_⟩⟩
    have h3 := World.ownsRow.cells (w := w) (base := base) (e := e) (size := 1) (v := .slice (some ⟨g, 0, none⟩) n c) (n := n) (xs := xs.map (zv k)) ⟨h1, .inr ⟨g, c, cur, rfl, hb, hg, hn, hm, hs, ht⟩⟩ (g := g) rfl j (zv k xs[j]) (by simp [hj])
    rw [add_addr] at h3
    exact h3
theorem ZOwn.lt (h : ZOwn w base e k a n c xs) : ∀ p, a = some p → base ≤ p.block ∧ p.block < w.heap.size := fun p hp => by
  subst hp
  exact h.2.lt p.block rfl
theorem ZOwn.kept (h : ZOwn w base e k a n c xs) {row : Option Nat} (hg : w.grownBy w' row) (hne : row = none ∨ ∀ p, a = some p → some p.block ≠ row) : ZOwn w' base e k a n c xs := by
  refine ⟨h.1, h.2.kept hg ?_⟩
  cases a with
  | none => exact .inl rfl
  | some p =>
    rcases hne with rfl | hne
    · exact .inr (by simp [Value.ownBlock])
    · exact .inr (hne p rfl)
theorem ZOwn.alloc (h : ZOwn w base e k a n c xs) (o : Obj) : ZOwn (w.alloc o) base e k a n c xs := ⟨h.1, h.2.alloc o⟩
theorem ZOwn.made (w : World) (base : Nat) (e : TypeId) (k : IntKind) (xs : List Int) (hb : base ≤ w.heap.size) (hm : xs.length ≤ 9223372036854775807) :
    ZOwn (w.alloc (.cells (xs.map (zv k)).toArray e)) base e k (some ⟨w.heap.size, 0, none⟩) xs.length xs.length xs :=
  ⟨rfl, by simpa using World.ownsRow_lit (base := base) (e := e) (size := 1) w (xs.map (zv k)).toArray xs.length hb (by unfold maxLen; omega) (by simp)⟩
theorem ZOwn.ofRow {g : Nat} (h : ZRow w g e k xs) (hb : base ≤ g) (hm : xs.length ≤ 9223372036854775807) : ZOwn w base e k (some ⟨g, 0, none⟩) xs.length xs.length xs :=
  ⟨rfl, by simp, .inr ⟨g, xs.length, (xs.map (zv k)).toArray, rfl, hb, h, Nat.le_refl _, by unfold maxLen; omega, by simp, by rw [List.take_of_length_le (by simp)]⟩⟩
end

/-- a new slice of one number -/
theorem zone_rd (w : World) (e : TypeId) (k : IntKind) (v : Int) (y : Int) (hv : v = y) : ZRd (w.alloc (.cells #[.int k v] e)) k (some ⟨w.heap.size, 0, none⟩) 1 1 [y] := by
  subst hv
  exact (ZRow.made w e k [_]).rd0 (by simp)

section
variable {P : Program} {ops : Array Oper} {rest : List Oper} {o : Oper} {a : Act} {Q : Exit → Act → World → Prop}
/-- append of the slice .slice sp m c', which reads as ys, to one of the call's own -/
theorem wz_append (w : World) (hgd : o.guard = none) (s x : Operand) (t : TypeId)
    (ho : o.op = .call { callee := .builtin .append, args := #[s, x], argTypes := #[t, t] })
    (e : TypeId) (k : IntKind) (bytes : Nat) (h1 : P.underlying t = some (.slice e)) (h2 : (P.info? e).map (fun i => (i.zero, i.size, i.bytes)) = some (some (.int k 0), 1, bytes))
    (base : Nat) (p : Option Addr) (n c : Nat) (xs : List Int) (hs : a.eval s = .slice p n c) (hown : ZOwn w base e k p n c xs)
    (sp : Option Addr) (m c' : Nat) (ys : List Int) (hx : a.eval x = .slice sp m c') (hrd : ZRd w k sp m c' ys)
    (b1 : n + m ≤ 9223372036854775807) (b2 : (n + m) * bytes ≤ 140737488355328) (w0 : World) (hg0 : w0.grownBy w none) (hb0 : w0.heap.size ≤ base) (hbase : base ≤ w.heap.size)
    (hK : ∀ p' c2 w', ZOwn w' base e k p' (n + m) c2 (xs ++ ys) → w0.grownBy w' none → wpList P ops Q rest (a.put o.dst (.slice p' (n + m) c2)) w') : wpList P ops Q (o :: rest) a w := by
  obtain ⟨i, hi, hz0, hz1, hz2⟩ := info_parts h2
  subst hz2
  rcases Nat.eq_zero_or_pos m with hm0 | hpos
  rotate_left
  · obtain ⟨b, o', rfl, _, hc⟩ := hrd.block hpos
    refine wpList_append_own w hgd s x t ho base e i (.int k 0) 1 i.bytes h1 hi hz0 hz1 rfl (by rfl) (by decide) _ n (xs.map (zv k)) hs hown.2 ⟨b, o', none⟩ m c' (ys.map (zv k)) hx (by simp [hrd.len]) ?_ ?_ (by unfold maxLen; omega) b2 hbase ?_
    · intro j u hu
      obtain ⟨hj, rfl⟩ := List.getElem?_eq_some_iff.1 hu
      have hj' : j < ys.length := by simpa using hj
      rw [add_addr, hc j hj']; simp
    · intro u hu
      obtain ⟨z, _, rfl⟩ := List.mem_map.1 hu
      rfl
    · intro v' w' hown' hgr _
      obtain ⟨hl, h3⟩ := hown'
      have hv' : ∃ p' c2, v' = .slice p' (n + m) c2 := by
        rcases h3 with ⟨rfl, h4⟩ | ⟨g, cap, cur, rfl, _⟩
        · exact ⟨none, 0, by rw [h4]⟩
        · exact ⟨_, _, rfl⟩
      obtain ⟨p', c2, rfl⟩ := hv'
      refine hK p' c2 w' ⟨by rw [List.length_append, hown.1, hrd.len], by simpa using ⟨hl, h3⟩⟩ (grown_new hg0 hgr fun g hg => ?_)
      cases p with
      | none => simp [Value.ownBlock] at hg
      | some q =>
        simp [Value.ownBlock] at hg
        have := (hown.lt q rfl).1
        omega
  · subst hm0
    have hm : ys = [] := List.eq_nil_of_length_eq_zero hrd.len
    subst hm
    refine wpList_plain hgd fun K hK' => ?_
    have hrun := run_append_zero (P := P) w t o.type e i h1 hi p sp n c c' hown.rd.cap
    unfold Oper.wp
    simp [execOp, ho, resolve, invoke, builtin, hs, hx, hrun]
    have := hK p c w (by simpa using hown) hg0
    exact hK' _ _ (by simpa using this)
end
end Nm
