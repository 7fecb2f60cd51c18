/-
  Lists of names, each once; slices of strings; contract of the reference's Has.
-/
import Derived.Test.YtolpcclobmgneaaAstU
import Derived.Test.YtolpcclobmgneaaSOwn
import Derived.Test.YtolpcclobmgneaaBox4
import Derived.Lib.Strings
set_option linter.unusedVariables false
set_option linter.unusedSimpArgs false
namespace Go.Proofs.Ytolpcclobmgneaa
open Go.RowKit _root_.Nm
open Classical in
/-- a name is added if it is new -/
noncomputable def add1 (l : List ByteArray) (s : ByteArray) : List ByteArray := if s ∈ l then l else l ++ [s]
theorem add1_old {l : List ByteArray} {s : ByteArray} (h : s ∈ l) : add1 l s = l := if_pos h
theorem add1_new {l : List ByteArray} {s : ByteArray} (h : ¬ s ∈ l) : add1 l s = l ++ [s] := if_neg h
theorem mem_add1 {l : List ByteArray} {s x : ByteArray} : x ∈ add1 l s ↔ x ∈ l ∨ x = s := by
  by_cases h : s ∈ l
  · rw [add1_old h]
    exact ⟨.inl, fun h' => h'.elim id fun e => e ▸ h⟩
  · rw [add1_new h]; simp
theorem mem_adds {xs l : List ByteArray} {x : ByteArray} : x ∈ xs.foldl add1 l ↔ x ∈ l ∨ x ∈ xs := by
  induction xs generalizing l with
  | nil => simp
  | cons a r ih => rw [List.foldl_cons, ih, mem_add1, List.mem_cons, or_assoc]
theorem adds_len (xs l : List ByteArray) : (xs.foldl add1 l).length ≤ l.length + xs.length := by
  induction xs generalizing l with
  | nil => simp
  | cons a r ih =>
    rw [List.foldl_cons]
    refine Nat.le_trans (ih _) ?_
    by_cases h : a ∈ l
    · rw [add1_old h]; simp
    · rw [add1_new h]; simp; omega
/-- adding a list whose repetitions have been left out -/
theorem adds_ded (l xs : List ByteArray) : (xs.foldl add1 []).foldl add1 l = xs.foldl add1 l := by
  have gen : ∀ (ys : List ByteArray), (ys.reverse.foldl add1 []).foldl add1 l = ys.reverse.foldl add1 l := by
    intro ys
    induction ys with
    | nil => rfl
    | cons a r ih =>
      rw [List.reverse_cons, List.foldl_append, List.foldl_append, List.foldl_cons, List.foldl_cons, List.foldl_nil, List.foldl_nil]
      by_cases h : a ∈ r.reverse.foldl add1 []
      · rw [add1_old h, ih, add1_old]
        exact mem_adds.2 (.inr ((mem_adds.1 h).elim (fun h => by simp at h) id))
      · rw [add1_new h, List.foldl_append, ih, List.foldl_cons, List.foldl_nil]
  have := gen xs.reverse
  rwa [List.reverse_reverse] at this
/-- the names of a tree from left to right -/
def preF : Nat → Tr → List ByteArray
  | 0, _ => []
  | m + 1, .node h l => (if h.k = 1 then [h.nm] else []) ++ (l.map (preF m)).flatten
noncomputable def ded (xs : List ByteArray) : List ByteArray := xs.foldl add1 []
theorem ded_len (xs : List ByteArray) : (ded xs).length ≤ xs.length := by
  have := adds_len xs []
  simpa [ded] using this
theorem bytes_eq {a b : ByteArray} : a.toList = b.toList ↔ a = b := by
  constructor
  · intro h
    rw [Lib.toList_data, Lib.toList_data] at h
    cases a; cases b
    rw [ByteArray.mk.injEq]
    exact Array.toList_inj.1 h
  · exact fun h => h ▸ rfl
/-- a slice of strings -/
def NRd (w : World) (p : Option Addr) (n c : Nat) (L : List ByteArray) : Prop := SRd w 1 p n c (L.map fun d => [.string d])
def NOwn (w : World) (base : Nat) (p : Option Addr) (n c : Nat) (L : List ByteArray) : Prop := SOwn w base 9 1 p n c (L.map fun d => [.string d])
theorem NRd.len {w : World} {p : Option Addr} {n c : Nat} {L : List ByteArray} (h : NRd w p n c L) : L.length = n := by
  have := SRd.len h
  simpa using this
theorem NRd.keep {w w' : World} {p : Option Addr} {n c : Nat} {L : List ByteArray} (h : NRd w p n c L) (hg : w.grownBy w' none) : NRd w' p n c L := SRd.keep h hg
theorem NRd.at1 {w : World} {p : Option Addr} {n c : Nat} {L : List ByteArray} (h : NRd w p n c L) {i : Nat} (hi : i < L.length) : ∃ b o, p = some ⟨b, o, none⟩ ∧ w.cell? ⟨b, o + i, none⟩ = some (.string L[i]) := by
  obtain ⟨b, o, hp, hc⟩ := SRd.at h (by decide) (i := i) (by simpa using hi)
  refine ⟨b, o, hp, ?_⟩
  have := hc 0 (by simp)
  simpa using this
end Go.Proofs.Ytolpcclobmgneaa
