/-
  Memory, continued: slices that a call appends to.
-/
import Derived.Test.YthkgldpcgmnaiaaDoorMem
set_option linter.unusedVariables false
set_option linter.unusedSimpArgs false
namespace Nm
open Go Go.RowKit

/-- .slice a n c is nil, or the head of a row of the call's own, from block base on, whose first n cells are xs -/
def IOwn (w : World) (base : Nat) (e : TypeId) (k : IntKind) (a : Option Addr) (n c : Nat) (xs : List Nat) : Prop :=
  xs.length = n ∧ w.ownsRow base e 1 (.slice a n c) n (xs.map (iv k))

section
variable {w w' : World} {base : Nat} {e : TypeId} {k : IntKind} {a : Option Addr} {n c : Nat} {xs : List Nat}
theorem IOwn.nil (w : World) (base : Nat) (e : TypeId) (k : IntKind) : IOwn w base e k none 0 0 [] := ⟨rfl, World.ownsRow_nil w base e 1⟩
theorem IOwn.rd (h : IOwn w base e k a n c xs) : IRd w k a n c xs := by
  obtain ⟨hl, h1, h2 | ⟨g, cap, cur, hv, hb, hg, hn, hm, hs, ht⟩⟩ := h
  · obtain ⟨hv, rfl⟩ := h2
    simp only [Value.slice.injEq, true_and] at hv
    obtain ⟨rfl, rfl⟩ := hv
    obtain rfl : xs = [] := List.eq_nil_of_length_eq_zero hl
    exact IRd.nil w k
  · simp only [Value.slice.injEq, true_and] at hv
    obtain ⟨rfl, rfl⟩ := hv
    refine ⟨hl, hn, by unfold maxLen at hm; omega, fun j hj => ⟨g, 0, rfl, ?_⟩⟩
    have h3 := World.ownsRow.cells (w := w) (base := base) (e := e) (size := 1) (v := .slice (some ⟨g, 0, none⟩) n c) (n := n) (xs := xs.map (iv k)) ⟨h1, .inr ⟨g, c, cur, rfl, hb, hg, hn, hm, hs, ht⟩⟩ (g := g) rfl j (iv k xs[j]) (by simp [hj])
    rw [add_addr] at h3
    exact h3
theorem IOwn.lt (h : IOwn w base e k a n c xs) : ∀ p, a = some p → base ≤ p.block ∧ p.block < w.heap.size := fun p hp => by
  subst hp
  exact h.2.lt p.block rfl
theorem IOwn.kept (h : IOwn w base e k a n c xs) {row : Option Nat} (hg : w.grownBy w' row) (hne : row = none ∨ ∀ p, a = some p → some p.block ≠ row) : IOwn w' base e k a n c xs := by
  refine ⟨h.1, h.2.kept hg ?_⟩
  cases a with
  | none => exact .inl rfl
  | some p =>
    rcases hne with rfl | hne
    · exact .inr (by simp [Value.ownBlock])
    · exact .inr (hne p rfl)
theorem IOwn.alloc (h : IOwn w base e k a n c xs) (o : Obj) : IOwn (w.alloc o) base e k a n c xs := ⟨h.1, h.2.alloc o⟩
theorem IOwn.made (w : World) (base : Nat) (e : TypeId) (k : IntKind) (xs : List Nat) (hb : base ≤ w.heap.size) (hm : xs.length ≤ 9223372036854775807) :
    IOwn (w.alloc (.cells (xs.map (iv k)).toArray e)) base e k (some ⟨w.heap.size, 0, none⟩) xs.length xs.length xs :=
  ⟨rfl, by simpa using World.ownsRow_lit (base := base) (e := e) (size := 1) w (xs.map (iv k)).toArray xs.length hb (by unfold maxLen; omega) (by simp)⟩
theorem IOwn.ofRow {g : Nat} (h : IRow w g e k xs) (hb : base ≤ g) (hm : xs.length ≤ 9223372036854775807) : IOwn w base e k (some ⟨g, 0, none⟩) xs.length xs.length xs :=
  ⟨rfl, by simp, .inr ⟨g, xs.length, (xs.map (iv k)).toArray, rfl, hb, h, Nat.le_refl _, by unfold maxLen; omega, by simp, by rw [List.take_of_length_le (by simp)]⟩⟩
end

/-- a new slice of one number -/
theorem one_rd (w : World) (e : TypeId) (k : IntKind) (v : Int) (y : Nat) (hv : v = (y : Int)) : IRd (w.alloc (.cells #[.int k v] e)) k (some ⟨w.heap.size, 0, none⟩) 1 1 [y] := by
  subst hv
  exact (IRow.made w e k [y]).rd0 (by simp)

theorem run_append_zero {P : Program} (w : World) (t ty e : TypeId) (i : TypeInfo) (ht : P.underlying t = some (.slice e)) (hi : P.info? e = some i) (p sp : Option Addr) (n c c' : Nat) (hle : n ≤ c) :
    (Builtin.append_ #[t, t] ty #[.slice p n c, .slice sp 0 c']).run P w = .ok (.slice p n c) w := by
  cases p <;> cases sp <;> simp [Builtin.append_, run_underlying ht, Go.sizeOf, typeInfo, hi, Builtin.lenOf, Builtin.firstCells, storeCells, hle, loadCells, loadCellsFrom]

section
variable {P : Program} {ops : Array Oper} {rest : List Oper} {o : Oper} {a : Act} {Q : Exit → Act → World → Prop}
/-- append of the slice .slice sp m c', which reads as ys, to one of the call's own -/
theorem wl_append (w : World) (hgd : o.guard = none) (s x : Operand) (t : TypeId)
    (ho : o.op = .call { callee := .builtin .append, args := #[s, x], argTypes := #[t, t] })
    (e : TypeId) (k : IntKind) (bytes : Nat) (h1 : P.underlying t = some (.slice e)) (h2 : (P.info? e).map (fun i => (i.zero, i.size, i.bytes)) = some (some (.int k 0), 1, bytes))
    (base : Nat) (p : Option Addr) (n c : Nat) (xs : List Nat) (hs : a.eval s = .slice p n c) (hown : IOwn w base e k p n c xs)
    (sp : Option Addr) (m c' : Nat) (ys : List Nat) (hx : a.eval x = .slice sp m c') (hrd : IRd w k sp m c' ys)
    (b1 : n + m ≤ 9223372036854775807) (b2 : (n + m) * bytes ≤ 140737488355328) (w0 : World) (hg0 : w0.grownBy w none) (hb0 : w0.heap.size ≤ base) (hbase : base ≤ w.heap.size)
    (hK : ∀ p' c2 w', IOwn w' base e k p' (n + m) c2 (xs ++ ys) → w0.grownBy w' none → wpList P ops Q rest (a.put o.dst (.slice p' (n + m) c2)) w') : wpList P ops Q (o :: rest) a w := by
  obtain ⟨i, hi, hz0, hz1, hz2⟩ := info_parts h2
  subst hz2
  rcases Nat.eq_zero_or_pos m with hm0 | hpos
  rotate_left
  · obtain ⟨b, o', rfl, _, hc⟩ := hrd.block hpos
    refine wpList_append_own w hgd s x t ho base e i (.int k 0) 1 i.bytes h1 hi hz0 hz1 rfl (by rfl) (by decide) _ n (xs.map (iv k)) hs hown.2 ⟨b, o', none⟩ m c' (ys.map (iv k)) hx (by simp [hrd.len]) ?_ ?_ (by unfold maxLen; omega) b2 hbase ?_
    · intro j u hu
      obtain ⟨hj, rfl⟩ := List.getElem?_eq_some_iff.1 hu
      have hj' : j < ys.length := by simpa using hj
      rw [add_addr, hc j hj']; simp
    · intro u hu
      obtain ⟨z, _, rfl⟩ := List.mem_map.1 hu
      rfl
    · intro v' w' hown' hgr _
      obtain ⟨hl, h3⟩ := hown'
      have hv' : ∃ p' c2, v' = .slice p' (n + m) c2 := by
        rcases h3 with ⟨rfl, h4⟩ | ⟨g, cap, cur, rfl, _⟩
        · exact ⟨none, 0, by rw [h4]⟩
        · exact ⟨_, _, rfl⟩
      obtain ⟨p', c2, rfl⟩ := hv'
      refine hK p' c2 w' ⟨by rw [List.length_append, hown.1, hrd.len], by simpa using ⟨hl, h3⟩⟩ (grown_new hg0 hgr fun g hg => ?_)
      cases p with
      | none => simp [Value.ownBlock] at hg
      | some q =>
        simp [Value.ownBlock] at hg
        have := (hown.lt q rfl).1
        omega
  · subst hm0
    have hm : ys = [] := List.eq_nil_of_length_eq_zero hrd.len
    subst hm
    refine wpList_plain hgd fun K hK' => ?_
    have hrun := run_append_zero (P := P) w t o.type e i h1 hi p sp n c c' hown.rd.cap
    unfold Oper.wp
    simp [execOp, ho, resolve, invoke, builtin, hs, hx, hrun]
    have := hK p c w (by simpa using hown) hg0
    exact hK' _ _ (by simpa using this)
end
end Nm
