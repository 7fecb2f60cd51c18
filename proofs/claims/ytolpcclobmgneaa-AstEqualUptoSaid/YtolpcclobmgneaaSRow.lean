/-
  Memory, continued: slices whose elements are structs of k cells. No program is mentioned here.
-/
import Derived.Test.YtolpcclobmgneaaMem
import Derived.Test.YtolpcclobmgneaaOwn
set_option linter.unusedVariables false
set_option linter.unusedSimpArgs false
namespace Nm
open Go Go.RowKit

/-- the address a is the head of elements of k cells that read as l -/
def SCel (w : World) (k : Nat) (a : Option Addr) (l : List (List Value)) : Prop :=
  ∀ i (h : i < l.length) j (hj : j < (l[i]).length), ∃ b o, a = some ⟨b, o, none⟩ ∧ w.cell? ⟨b, o + i * k + j, none⟩ = some (l[i])[j]
/-- .slice a n c is a slice of structs of k cells that reads as l -/
structure SRd (w : World) (k : Nat) (a : Option Addr) (n c : Nat) (l : List (List Value)) : Prop where
  len : l.length = n
  each : ∀ r ∈ l, r.length = k
  cap : n ≤ c
  max : c ≤ 9223372036854775807
  cel : SCel w k a l
section
variable {w w' : World} {k : Nat} {a : Option Addr} {n c : Nat} {l : List (List Value)}
theorem SRd.kept (h : SRd w k a n c l) {row : Option Nat} (hg : w.grownBy w' row) (hne : row = none ∨ ∀ p, a = some p → some p.block ≠ row) : SRd w' k a n c l := by
  refine ⟨h.len, h.each, h.cap, h.max, fun i hi j hj => ?_⟩
  obtain ⟨b, o, rfl, hc⟩ := h.cel i hi j hj
  refine ⟨b, o, rfl, hg.cell hc ?_⟩
  rcases hne with rfl | hne
  · simp
  · exact hne ⟨b, o, none⟩ rfl
theorem SRd.keep (h : SRd w k a n c l) (hg : w.grownBy w' none) : SRd w' k a n c l := h.kept hg (.inl rfl)
theorem SRd.nil (w : World) (k : Nat) : SRd w k none 0 0 [] := ⟨rfl, by simp, Nat.le_refl _, by omega, fun i h => by simp at h⟩
/-- the cells of one element -/
theorem SRd.at (h : SRd w k a n c l) (hk : 0 < k) {i : Nat} (hi : i < l.length) : ∃ b o, a = some ⟨b, o, none⟩ ∧ ∀ j (hj : j < (l[i]).length), w.cell? ⟨b, o + i * k + j, none⟩ = some (l[i])[j] := by
  have hl := h.each l[i] (List.getElem_mem hi)
  obtain ⟨b, o, rfl, _⟩ := h.cel i hi 0 (by omega)
  refine ⟨b, o, rfl, fun j hj => ?_⟩
  obtain ⟨b', o', e, hc⟩ := h.cel i hi j hj
  cases e
  exact hc
end
end Nm
