/-
  Memory, continued: append of one struct to a slice of the call's own, as one step of a region that draws its order. No program is mentioned here.
-/
import Derived.Test.YtolpcclobmgneaaSOwn
import Derived.Maps.AppendAt
set_option linter.unusedVariables false
set_option linter.unusedSimpArgs false
namespace Nm
open Go Go.RowKit
section
variable {P : Program} {ops : Array Oper} {o : Oper} {a : Act}
/-- an operation without a guard, as one step of a region that draws -/
theorem step_go {E : Prop} {K : Act → World → Prop} {Q : Exit → Act → World → Prop} {w : World} (hgd : o.guard = none) (h : Oper.wp P o a w K Q) :
    if Region.wanted o (yielded ops a.tmps) = true then Oper.wp P o a w K Q else E := by
  rw [if_pos (by simp [Region.wanted, hgd])]
  exact h
/-- append of one struct, as one step of a region that draws; the struct, a new slice .slice sp 1 c', to a slice of the call's own -/
theorem step_sappend {E : Prop} {K : Act → World → Prop} {Q : Exit → Act → World → Prop} (w : World) (hgd : o.guard = none) (s x : Operand) (t : TypeId)
    (ho : o.op = .call { callee := .builtin .append, args := #[s, x], argTypes := #[t, t] })
    (e : TypeId) (k : Nat) (z : Value) (bytes : Nat) (h1 : P.underlying t = some (.slice e)) (h2 : (P.info? e).map (fun i => (i.zero, i.size, i.bytes)) = some (some z, k, bytes)) (hz : z.cells.size = k) (hk : 0 < k)
    (base : Nat) (p : Option Addr) (n c : Nat) (l : List (List Value)) (hs : a.eval s = .slice p n c) (hown : SOwn w base e k p n c l)
    (sp : Option Addr) (c' : Nat) (r : List Value) (hx : a.eval x = .slice sp 1 c') (hrd : SRd w k sp 1 c' [r]) (h1c : ∀ u ∈ r, u.oneCell' = true)
    (b1 : n + 1 ≤ 9223372036854775807) (b2 : (n + 1) * bytes ≤ 140737488355328) (w0 : World) (hg0 : w0.grownBy w none) (hb0 : w0.heap.size ≤ base) (hbase : base ≤ w.heap.size)
    (hK : ∀ p' c2 w', SOwn w' base e k p' (n + 1) c2 (l ++ [r]) → w0.grownBy w' none → (∀ G O, w.heap[G]? = some O → (∀ q, p = some q → q.block ≠ G) → w'.heap[G]? = some O) → K (a.put o.dst (.slice p' (n + 1) c2)) w') :
    if Region.wanted o (yielded ops a.tmps) = true then Oper.wp P o a w K Q else E := by
  have hw : Region.wanted o (yielded ops a.tmps) = true := by simp [Region.wanted, hgd]
  rw [if_pos hw]
  obtain ⟨i, hi, hz0, hz1, hz2⟩ := info_parts h2
  subst hz2
  have hrk : r.length = k := hrd.each r (by simp)
  obtain ⟨b, o', rfl, hc⟩ := hrd.at hk (i := 0) (by simp)
  refine wp_append_own w s x t ho base e i z k i.bytes h1 hi hz0 hz1 rfl hz hk _ n l.flatten hs hown.2.2 ⟨b, o', none⟩ 1 c' r hx (by simpa using hrk) ?_ h1c (by unfold maxLen; omega) b2 hbase ?_
  · intro j u hu
    obtain ⟨hj, rfl⟩ := List.getElem?_eq_some_iff.1 hu
    have := hc j (by simpa using hj)
    rw [add_addr]
    simpa using this
  · intro v' w' hown' hgr _
    obtain ⟨hl, h3⟩ := hown'
    have hv' : ∃ p' c2, v' = .slice p' (n + 1) c2 := by
      rcases h3 with ⟨rfl, h4⟩ | ⟨g, cap, cur, rfl, _⟩
      · exact ⟨none, 0, by rw [h4]⟩
      · exact ⟨_, _, rfl⟩
    obtain ⟨p', c2, rfl⟩ := hv'
    refine hK p' c2 w' ⟨by simp [hown.1], ?_, by simpa using ⟨hl, h3⟩⟩ (grown_new hg0 hgr fun g hg => ?_) (fun G O hG hne => (hgr.block G (lt_of_block hG) ?_).trans hG)
    · intro q hq
      rcases List.mem_append.1 hq with h | h
      · exact hown.2.1 q h
      · rw [List.mem_singleton.1 h]; exact hrk
    · cases p with
      | none => simp [Value.ownBlock] at hg
      | some q =>
        simp [Value.ownBlock] at hg
        have := (hown.lt q rfl).1
        omega
    · cases p with
      | none => simp [Value.ownBlock]
      | some q =>
        simp only [Value.ownBlock, ne_eq, Option.some.injEq]
        exact fun e => hne q rfl e.symm
/-- the same, and where the new slice lies -/
theorem step_sappend_at {E : Prop} {K : Act → World → Prop} {Q : Exit → Act → World → Prop} (w : World) (hgd : o.guard = none) (s x : Operand) (t : TypeId)
    (ho : o.op = .call { callee := .builtin .append, args := #[s, x], argTypes := #[t, t] })
    (e : TypeId) (k : Nat) (z : Value) (bytes : Nat) (h1 : P.underlying t = some (.slice e)) (h2 : (P.info? e).map (fun i => (i.zero, i.size, i.bytes)) = some (some z, k, bytes)) (hz : z.cells.size = k) (hk : 0 < k)
    (base : Nat) (p : Option Addr) (n c : Nat) (l : List (List Value)) (hs : a.eval s = .slice p n c) (hown : SOwn w base e k p n c l)
    (sp : Option Addr) (c' : Nat) (r : List Value) (hx : a.eval x = .slice sp 1 c') (hrd : SRd w k sp 1 c' [r]) (h1c : ∀ u ∈ r, u.oneCell' = true)
    (b1 : n + 1 ≤ 9223372036854775807) (b2 : (n + 1) * bytes ≤ 140737488355328) (hbase : base ≤ w.heap.size)
    (hK : ∀ p' c2 w', SOwn w' base e k p' (n + 1) c2 (l ++ [r]) → w.grownBy w' (p.map (·.block)) → (p'.map (·.block) = p.map (·.block) ∨ p'.map (·.block) = some w.heap.size) → K (a.put o.dst (.slice p' (n + 1) c2)) w') :
    if Region.wanted o (yielded ops a.tmps) = true then Oper.wp P o a w K Q else E := by
  refine step_go hgd ?_
  obtain ⟨i, hi, hz0, hz1, hz2⟩ := info_parts h2
  subst hz2
  have hrk : r.length = k := hrd.each r (by simp)
  obtain ⟨b, o', rfl, hc⟩ := hrd.at hk (i := 0) (by simp)
  have hob : ∀ (q : Option Addr) (m d : Nat), (Value.slice q m d).ownBlock = q.map (·.block) := fun q m d => by cases q <;> rfl
  obtain ⟨v', w', hrun, hown', hgr, _, hat⟩ := run_append_own_at (P := P) w base t o.type e i z k i.bytes h1 hi hz0 hz1 rfl hz hk (.slice p n c) n l.flatten hown.2.2 ⟨b, o', none⟩ 1 c' r (by simpa using hrk) (fun j u hu => by
    obtain ⟨hj, rfl⟩ := List.getElem?_eq_some_iff.1 hu
    have := hc j (by simpa using hj)
    rw [add_addr]
    simpa using this) h1c (by unfold maxLen; omega) b2 hbase
  obtain ⟨hl, h3⟩ := hown'
  have hv' : ∃ p' c2, v' = .slice p' (n + 1) c2 := by
    rcases h3 with ⟨rfl, h4⟩ | ⟨g, cap, cur, rfl, _⟩
    · exact ⟨none, 0, by rw [h4]⟩
    · exact ⟨_, _, rfl⟩
  obtain ⟨p', c2, rfl⟩ := hv'
  rw [hob] at hgr
  rw [hob, hob] at hat
  have hfin := hK p' c2 w' ⟨by simp [hown.1], fun q hq => by
    rcases List.mem_append.1 hq with h | h
    · exact hown.2.1 q h
    · rw [List.mem_singleton.1 h]; exact hrk, by simpa using ⟨hl, h3⟩⟩ hgr hat
  unfold Oper.wp
  simp [execOp, ho, resolve, invoke, builtin, hs, hx, hrun, Result.andThen]
  exact hfin
end
end Nm
