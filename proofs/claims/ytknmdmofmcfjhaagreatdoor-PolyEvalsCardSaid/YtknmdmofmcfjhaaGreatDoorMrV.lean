/-
  PlT PlU PlV PmD PmE PlW PlX PmF PlZ PmA, in one text.
-/
import Derived.Test.YtknmdmofmcfjhaaGreatDoorMrS
import Derived.Deep.RegionHeld3
import Derived.Test.YtknmdmofmcfjhaaGreatDoorMrQ
import Derived.Test.YtknmdmofmcfjhaaGreatDoorMrT
import Derived.Test.YtknmdmofmcfjhaaGreatDoorMrM
import Derived.Laws.MakeOwn

set_option linter.unusedVariables false
set_option linter.unusedSimpArgs false
namespace Go.Proofs.YtknmdmofmcfjhaaGreatDoor
open Go Go.RowKit _root_.Nm
end Go.Proofs.YtknmdmofmcfjhaaGreatDoor

set_option linter.unusedVariables false
set_option linter.unusedSimpArgs false
namespace Go.Proofs.YtknmdmofmcfjhaaGreatDoor
open Go Go.RowKit _root_.Nm
end Go.Proofs.YtknmdmofmcfjhaaGreatDoor

set_option linter.unusedVariables false
set_option linter.unusedSimpArgs false
namespace Go.Proofs.YtknmdmofmcfjhaaGreatDoor
open Go Go.RowKit _root_.Nm
end Go.Proofs.YtknmdmofmcfjhaaGreatDoor

set_option linter.unusedVariables false
set_option linter.unusedSimpArgs false
namespace Go.Proofs.YtknmdmofmcfjhaaGreatDoor
open Go Go.RowKit _root_.Nm
end Go.Proofs.YtknmdmofmcfjhaaGreatDoor

set_option linter.unusedVariables false
set_option linter.unusedSimpArgs false
namespace Go.Proofs.YtknmdmofmcfjhaaGreatDoor
open Go Go.RowKit _root_.Nm
end Go.Proofs.YtknmdmofmcfjhaaGreatDoor

set_option linter.unusedVariables false
set_option linter.unusedSimpArgs false
namespace Go.Proofs.YtknmdmofmcfjhaaGreatDoor
open Go Go.RowKit _root_.Nm
end Go.Proofs.YtknmdmofmcfjhaaGreatDoor

set_option linter.unusedVariables false
set_option linter.unusedSimpArgs false
namespace Go.Proofs.YtknmdmofmcfjhaaGreatDoor
open Go Go.RowKit _root_.Nm
theorem IsP.take {w : World} {p : Option Addr} {n c : Nat} {P : List Tm} (h : IsP w p n c P) {k : Nat} (hk : k ≤ n) : IsP w p k c (P.take k) := by
  have hl := h.len
  refine ⟨by rw [List.length_take]; omega, Nat.le_trans hk h.cap, h.max, fun i hi => ?_⟩
  rw [List.length_take] at hi
  have := h.tms i (by omega)
  rw [List.getElem_take]
  exact this
theorem IsP.drop {w : World} {b o n c : Nat} {P : List Tm} (h : IsP w (some ⟨b, o, none⟩) n c P) {k : Nat} (hk : k ≤ n) : IsP w (some ⟨b, o + k * 4, none⟩) (n - k) (c - k) (P.drop k) := by
  have hl := h.len
  have hc := h.cap
  have hm := h.max
  refine ⟨by rw [List.length_drop]; omega, by omega, by omega, fun i hi => ?_⟩
  rw [List.length_drop] at hi
  obtain ⟨b', o', cs, e, h2, h3⟩ := h.tms (k + i) (by omega)
  cases e
  rw [List.getElem_drop]
  refine ⟨b, o + k * 4, cs, rfl, fun j hj => ?_, h3⟩
  have := h2 j hj
  rw [show o + k * 4 + i * 4 + j = o + (k + i) * 4 + j by rw [Nat.add_mul]; omega]
  exact this
theorem IsQ.bd {w : World} {g : Bool} {p q : Option Addr} {n c m d H : Nat} {v : Rat} (h : IsQ w g p n c q m d v) (h0 : 0 < H) (h1 : n ≤ H) (h2 : m ≤ H) : Bd H v := by
  obtain ⟨N, D, hN, hD, rfl⟩ := h
  rcases Nat.eq_zero_or_pos D with e | e
  · rw [e, Rat.mkRat_zero]
    exact ⟨Nat.pow_pos (by omega), Nat.one_lt_pow (by omega) (by omega)⟩
  · exact Bd.mk e (Nat.lt_of_lt_of_le hN.1.lt (Nat.pow_le_pow_right (by omega) h1)) (Nat.lt_of_lt_of_le hD.lt (Nat.pow_le_pow_right (by omega) h2))
theorem IsP.empty (w : World) (p : Option Addr) (c : Nat) (hc : c ≤ 9223372036854775807) : IsP w p 0 c [] := ⟨rfl, by omega, hc, fun i hi => absurd hi (Nat.not_lt_zero i)⟩
end Go.Proofs.YtknmdmofmcfjhaaGreatDoor

set_option linter.unusedVariables false
set_option linter.unusedSimpArgs false
namespace Go.Proofs.YtknmdmofmcfjhaaGreatDoor
open Go Go.RowKit _root_.Nm
end Go.Proofs.YtknmdmofmcfjhaaGreatDoor

set_option linter.unusedVariables false
set_option linter.unusedSimpArgs false
namespace Go.Proofs.YtknmdmofmcfjhaaGreatDoor
open Go Go.RowKit _root_.Nm
end Go.Proofs.YtknmdmofmcfjhaaGreatDoor

set_option linter.unusedVariables false
set_option linter.unusedSimpArgs false
namespace Go.Proofs.YtknmdmofmcfjhaaGreatDoor
open Go Go.RowKit _root_.Nm
end Go.Proofs.YtknmdmofmcfjhaaGreatDoor
