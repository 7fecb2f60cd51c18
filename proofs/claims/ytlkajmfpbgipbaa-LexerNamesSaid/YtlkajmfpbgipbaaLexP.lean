/-
  Names and keywords as plain functions on lists of bytes. No program is mentioned here.
-/
import Derived.Test.YtlkajmfpbgipbaaLexN
import Derived.Shelf.Spec.SearchS
import Derived.KernelRfl
set_option linter.unusedVariables false
set_option linter.unusedSimpArgs false
namespace Lx

/-- the keywords, ascending -/
def kws : List (List UInt8) := [
  [97, 110, 103, 108, 101],
  [97, 112, 101, 120],
  [98, 105, 115, 101, 99, 116, 111, 114],
  [99, 101, 110, 116, 101, 114],
  [99, 105, 114, 99, 108, 101],
  [99, 105, 114, 99, 117, 109],
  [99, 111, 108, 108, 105, 110, 101, 97, 114],
  [99, 111, 109, 109, 111, 110],
  [99, 111, 110, 99, 121, 99, 108, 105, 99],
  [99, 111, 110, 103, 114, 117, 101, 110, 116],
  [99, 114, 111, 115, 115],
  [99, 117, 116],
  [100, 105, 118, 105, 100, 101],
  [102, 111, 111, 116],
  [108, 105, 110, 101],
  [109, 101, 101, 116],
  [109, 105, 100, 112, 111, 105, 110, 116],
  [109, 105, 114, 114, 111, 114],
  [111, 110],
  [111, 116, 104, 101, 114],
  [112, 97, 114, 97, 108, 108, 101, 108],
  [112, 101, 114, 112, 101, 110, 100, 105, 99, 117, 108, 97, 114],
  [112, 111, 105, 110, 116, 115],
  [112, 114, 111, 118, 101],
  [114, 97, 116, 105, 111],
  [114, 101, 102, 108, 101, 99, 116],
  [115, 97, 109, 101],
  [115, 104, 105, 102, 116],
  [116, 117, 114, 110]]
/-- the shape of a name -/
def shp : List UInt8 → Bool
  | [] => false
  | c :: r => decide ((c :: r).length ≤ 20) && (decide (kd c.toNat = 3) && decide (span [3, 4] (c :: r) = (c :: r).length))
/-- is it a name -/
def isNm (l : List UInt8) : Bool := shp l && !(kws.contains l)
def kwAt (t : Nat) : List UInt8 := kws.getD t []
theorem kws_len : kws.length = 29 := rfl

def allB (p : Nat → Bool) : Nat → Bool
  | 0 => true
  | n + 1 => allB p n && p n
theorem allB_spec {p : Nat → Bool} : ∀ {n : Nat}, allB p n = true → ∀ i, i < n → p i = true
  | 0, _, i, h => absurd h (Nat.not_lt_zero i)
  | n + 1, h, i, hi => by
    simp only [allB, Bool.and_eq_true] at h
    by_cases e : i = n
    · subst e; exact h.2
    · exact allB_spec h.1 i (by omega)
theorem kw_find : ∀ j, j < 29 → (Go.Lib.bsGo (fun t => Go.Op.bytesLess (kwAt t) (kwAt j)) 29 0 29 == j) = true :=
  allB_spec (p := fun j => Go.Lib.bsGo (fun t => Go.Op.bytesLess (kwAt t) (kwAt j)) 29 0 29 == j) (by kernel_rfl)
theorem kw_names : ∀ j, j < 29 → isNm (kwAt j) = false := fun j h => by
  have := allB_spec (p := fun j => !(isNm (kwAt j))) (n := 29) (by kernel_rfl) j h
  simpa using this
theorem kw_more : ∀ j, j < 29 → isNm (kwAt j ++ [49]) = true := fun j h =>
  allB_spec (p := fun j => isNm (kwAt j ++ [49])) (n := 29) (by kernel_rfl) j h
theorem kw_mem {l : List UInt8} : l ∈ kws ↔ ∃ j, j < 29 ∧ kwAt j = l := by
  constructor
  · intro h
    obtain ⟨j, hj, e⟩ := List.getElem_of_mem h
    exact ⟨j, hj, by unfold kwAt; rw [List.getD_eq_getElem?_getD, List.getElem?_eq_getElem hj]; exact e⟩
  · rintro ⟨j, hj, rfl⟩
    unfold kwAt
    rw [List.getD_eq_getElem?_getD, List.getElem?_eq_getElem (show j < kws.length from hj)]
    exact List.getElem_mem _
/-- what a search by halves tells -/
theorem kw_search (l : List UInt8) : decide (Go.Lib.bsGo (fun t => Go.Op.bytesLess (kwAt t) l) 29 0 29 < 29 ∧ kwAt (Go.Lib.bsGo (fun t => Go.Op.bytesLess (kwAt t) l) 29 0 29) = l) = kws.contains l := by
  rw [List.contains_eq_mem]
  refine decide_eq_decide.2 ⟨fun h => kw_mem.2 ⟨_, h.1, h.2⟩, fun h => ?_⟩
  obtain ⟨j, hj, rfl⟩ := kw_mem.1 h
  have := eq_of_beq (kw_find j hj)
  rw [this]
  exact ⟨hj, rfl⟩
theorem shp_nil : shp [] = false := rfl
theorem shp_cons (c : UInt8) (r : List UInt8) : shp (c :: r) = (decide ((c :: r).length ≤ 20) && (decide (kd c.toNat = 3) && decide (span [3, 4] (c :: r) = (c :: r).length))) := rfl
theorem isNm_f {l : List UInt8} (h : shp l = false) : isNm l = false := by unfold isNm; rw [h]; rfl
theorem isNm_t {l : List UInt8} (h : shp l = true) : isNm l = !(kws.contains l) := by unfold isNm; rw [h]; rfl
end Lx
