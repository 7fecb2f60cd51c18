/-
  Memory, continued: slices of structs that a call appends to. No program is mentioned here.
-/
import Derived.Test.YtolpcclobmgneaaMem
import Derived.Test.YtolpcclobmgneaaOwn
import Derived.Test.YtolpcclobmgneaaSRow
set_option linter.unusedVariables false
set_option linter.unusedSimpArgs false
namespace Nm
open Go Go.RowKit

/-- .slice a n c is nil, or the head of a row of the call's own, from block base on, whose first n elements of k cells are l -/
def SOwn (w : World) (base : Nat) (e : TypeId) (k : Nat) (a : Option Addr) (n c : Nat) (l : List (List Value)) : Prop :=
  l.length = n ∧ (∀ r ∈ l, r.length = k) ∧ w.ownsRow base e k (.slice a n c) n l.flatten

theorem flatten_get {k : Nat} : ∀ {l : List (List Value)} (h : ∀ r ∈ l, r.length = k) (i : Nat) (hi : i < l.length) (j : Nat) (hj : j < (l[i]).length), l.flatten[i * k + j]? = some (l[i])[j]
  | r :: l, h, 0, hi, j, hj => by
    simp only [List.getElem_cons_zero] at hj ⊢
    rw [List.flatten_cons, Nat.zero_mul, Nat.zero_add, List.getElem?_append_left hj]
    simp
  | r :: l, h, i + 1, hi, j, hj => by
    simp only [List.getElem_cons_succ] at hj ⊢
    have hr := h r (by simp)
    rw [List.flatten_cons, List.getElem?_append_right (by rw [hr, Nat.add_mul]; omega), hr]
    have ih := flatten_get (fun r hr => h r (by simp [hr])) i (by simpa using hi) j hj
    rw [show (i + 1) * k + j - k = i * k + j by rw [Nat.add_mul]; omega]
    exact ih

section
variable {w w' : World} {base : Nat} {e : TypeId} {k : Nat} {a : Option Addr} {n c : Nat} {l : List (List Value)}
theorem SOwn.nil (w : World) (base : Nat) (e : TypeId) (k : Nat) : SOwn w base e k none 0 0 [] := ⟨rfl, by simp, World.ownsRow_nil w base e k⟩
theorem SOwn.rd (h : SOwn w base e k a n c l) : SRd w k a n c l := by
  obtain ⟨hl, he, h1, h2 | ⟨g, cap, cur, hv, hb, hg, hn, hm, hs, ht⟩⟩ := h
  · obtain ⟨hv, rfl⟩ := h2
    simp only [Value.slice.injEq, true_and] at hv
    obtain ⟨rfl, rfl⟩ := hv
    obtain rfl : l = [] := List.eq_nil_of_length_eq_zero hl
    exact SRd.nil w k
  · simp only [Value.slice.injEq, true_and] at hv
    obtain ⟨rfl, rfl⟩ := hv
    refine ⟨hl, he, hn, by unfold maxLen at hm; omega, fun i hi j hj => ⟨g, 0, rfl, ?_⟩⟩
    have h3 := World.ownsRow.cells (w := w) (base := base) (e := e) (size := k) (v := .slice (some ⟨g, 0, none⟩) n c) (n := n) (xs := l.flatten) ⟨h1, .inr ⟨g, c, cur, rfl, hb, hg, hn, hm, hs, ht⟩⟩ (g := g) rfl (i * k + j) _ (flatten_get he i hi j hj)
    rw [add_addr] at h3
    rw [Nat.zero_add] at h3
    rw [Nat.zero_add]
    exact h3
theorem SOwn.lt (h : SOwn w base e k a n c l) : ∀ p, a = some p → base ≤ p.block ∧ p.block < w.heap.size := fun p hp => by
  subst hp
  exact h.2.2.lt p.block rfl
theorem SOwn.kept (h : SOwn w base e k a n c l) {row : Option Nat} (hg : w.grownBy w' row) (hne : row = none ∨ ∀ p, a = some p → some p.block ≠ row) : SOwn w' base e k a n c l := by
  refine ⟨h.1, h.2.1, h.2.2.kept hg ?_⟩
  cases a with
  | none => exact .inl rfl
  | some p =>
    rcases hne with rfl | hne
    · exact .inr (by simp [Value.ownBlock])
    · exact .inr (hne p rfl)
theorem SOwn.keep (h : SOwn w base e k a n c l) (hg : w.grownBy w' none) : SOwn w' base e k a n c l := h.kept hg (.inl rfl)
theorem SOwn.alloc (h : SOwn w base e k a n c l) (o : Obj) : SOwn (w.alloc o) base e k a n c l := ⟨h.1, h.2.1, h.2.2.alloc o⟩
end

/-- a new slice of one struct -/
theorem one_srd (w : World) (e : TypeId) (k : Nat) (r : List Value) (hr : r.length = k) (b : Nat) (hb : b = w.heap.size) : SRd (w.alloc (.cells r.toArray e)) k (some ⟨b, 0, none⟩) 1 1 [r] := by
  subst hb
  refine ⟨rfl, by simpa using hr, Nat.le_refl _, by omega, fun i hi j hj => ⟨w.heap.size, 0, rfl, ?_⟩⟩
  simp only [List.length_cons, List.length_nil, Nat.zero_add, Nat.lt_one_iff] at hi
  subst hi
  simp only [List.getElem_cons_zero] at hj ⊢
  rw [cell_of_row _ w.heap.size (0 + 0 * k + j) _ _ _ (heap_alloc_new w _)]
  simp [hj]

section
variable {P : Program} {ops : Array Oper} {rest : List Oper} {o : Oper} {a : Act} {Q : Exit → Act → World → Prop}
/-- append of one struct, a new slice .slice sp 1 c', to a slice of the call's own -/
theorem wls_append (w : World) (hgd : o.guard = none) (s x : Operand) (t : TypeId)
    (ho : o.op = .call { callee := .builtin .append, args := #[s, x], argTypes := #[t, t] })
    (e : TypeId) (k : Nat) (z : Value) (bytes : Nat) (h1 : P.underlying t = some (.slice e)) (h2 : (P.info? e).map (fun i => (i.zero, i.size, i.bytes)) = some (some z, k, bytes)) (hz : z.cells.size = k) (hk : 0 < k)
    (base : Nat) (p : Option Addr) (n c : Nat) (l : List (List Value)) (hs : a.eval s = .slice p n c) (hown : SOwn w base e k p n c l)
    (sp : Option Addr) (c' : Nat) (r : List Value) (hx : a.eval x = .slice sp 1 c') (hrd : SRd w k sp 1 c' [r]) (h1c : ∀ u ∈ r, u.oneCell' = true)
    (b1 : n + 1 ≤ 9223372036854775807) (b2 : (n + 1) * bytes ≤ 140737488355328) (w0 : World) (hg0 : w0.grownBy w none) (hb0 : w0.heap.size ≤ base) (hbase : base ≤ w.heap.size)
    (hK : ∀ p' c2 w', SOwn w' base e k p' (n + 1) c2 (l ++ [r]) → w0.grownBy w' none → (∀ G O, w.heap[G]? = some O → (∀ q, p = some q → q.block ≠ G) → w'.heap[G]? = some O) → wpList P ops Q rest (a.put o.dst (.slice p' (n + 1) c2)) w') : wpList P ops Q (o :: rest) a w := by
  obtain ⟨i, hi, hz0, hz1, hz2⟩ := info_parts h2
  subst hz2
  have hrk : r.length = k := hrd.each r (by simp)
  obtain ⟨b, o', rfl, hc⟩ := hrd.at hk (i := 0) (by simp)
  refine wpList_append_own w hgd s x t ho base e i z k i.bytes h1 hi hz0 hz1 rfl hz hk _ n l.flatten hs hown.2.2 ⟨b, o', none⟩ 1 c' r hx (by simpa using hrk) ?_ h1c (by unfold maxLen; omega) b2 hbase ?_
  · intro j u hu
    obtain ⟨hj, rfl⟩ := List.getElem?_eq_some_iff.1 hu
    have := hc j (by simpa using hj)
    rw [add_addr]
    simpa using this
  · intro v' w' hown' hgr _
    obtain ⟨hl, h3⟩ := hown'
    have hv' : ∃ p' c2, v' = .slice p' (n + 1) c2 := by
      rcases h3 with ⟨rfl, h4⟩ | ⟨g, cap, cur, rfl, _⟩
      · exact ⟨none, 0, by rw [h4]⟩
      · exact ⟨_, _, rfl⟩
    obtain ⟨p', c2, rfl⟩ := hv'
    refine hK p' c2 w' ⟨by simp [hown.1], ?_, by simpa using ⟨hl, h3⟩⟩ (grown_new hg0 hgr fun g hg => ?_) (fun G O hG hne => (hgr.block G (lt_of_block hG) ?_).trans hG)
    · intro q hq
      rcases List.mem_append.1 hq with h | h
      · exact hown.2.1 q h
      · rw [List.mem_singleton.1 h]; exact hrk
    · cases p with
      | none => simp [Value.ownBlock] at hg
      | some q =>
        simp [Value.ownBlock] at hg
        have := (hown.lt q rfl).1
        omega
    · cases p with
      | none => simp [Value.ownBlock]
      | some q =>
        simp only [Value.ownBlock, ne_eq, Option.some.injEq]
        exact fun e => hne q rfl e.symm
end
end Nm
