/-
  Integers: what a struct stands for; contracts of integer.signed and Sign.
-/
import Derived.Test.YthkgldpcgmnaiaaDoorVal
set_option linter.unusedVariables false
set_option linter.unusedSimpArgs false
namespace Go.Proofs.YthkgldpcgmnaiaaDoor
open Go.RowKit Nm

/-- the integer with a sign and an absolute value -/
def sg (g : Bool) (N : Nat) : Int := if g then -(N : Int) else N
theorem sg_false (N : Nat) : sg false N = N := rfl
theorem sg_true (N : Nat) : sg true N = -(N : Int) := rfl
theorem sg_zero (g : Bool) : sg g 0 = 0 := by cases g <;> rfl
theorem sg_abs (g : Bool) (N : Nat) : (sg g N).natAbs = N := by cases g <;> simp [sg]
theorem sg_neg (g : Bool) (N : Nat) : decide (sg g N < 0) = (g && decide (0 < N)) := by
  cases g <;> simp [sg]

/-- the struct of g and .slice p n c stands for the integer Z, perhaps not in its valid form -/
def IsZ (w : World) (g : Bool) (p : Option Addr) (n c : Nat) (Z : Int) : Prop := IsN w p n c Z.natAbs ∧ Z = sg g Z.natAbs
/-- it is the valid Int of Z -/
def IsI (w : World) (g : Bool) (p : Option Addr) (n c : Nat) (Z : Int) : Prop := IsC w p n c Z.natAbs ∧ g = decide (Z < 0)

section
variable {w w' : World} {g h : Bool} {p q : Option Addr} {n c m d N M : Nat} {Z Y : Int}
theorem IsZ.of {xs : List Nat} (g : Bool) (h : IRd w .u16 p n c xs) (hx : Dg 65536 xs) : IsZ w g p n c (sg g (V 65536 xs)) :=
  ⟨by rw [sg_abs]; exact IsN.of h hx, by rw [sg_abs]⟩
theorem IsI.z (h : IsI w g p n c Z) : IsZ w g p n c Z := ⟨h.1.isN, by
  rw [h.2]; unfold sg
  by_cases hz : Z < 0
  · rw [decide_eq_true hz, if_pos rfl]; omega
  · rw [decide_eq_false hz]; simp; omega⟩
theorem IsZ.keep (h : IsZ w g p n c Z) (hg : w.grownBy w' none) : IsZ w' g p n c Z := ⟨h.1.keep hg, h.2⟩
theorem IsI.keep (h : IsI w g p n c Z) (hg : w.grownBy w' none) : IsI w' g p n c Z := ⟨h.1.keep hg, h.2⟩

/-- what was there reads as it did -/
theorem gcell {W w1 : World} (hb : W.grownBy w1 none) : ∀ b o, b < W.heap.size → w1.cell? ⟨b, o, none⟩ = W.cell? ⟨b, o, none⟩ := fun b o h => World.cell?_of_block (hb.block b h (by simp))
theorem gfree {W w1 : World} (hb : W.grownBy w1 none) : ∀ b o, b < W.heap.size → w1.frozen? ⟨b, o, none⟩ = W.frozen? ⟨b, o, none⟩ := fun b o h => World.frozen?_of_block (hb.block b h (by simp))

/-- what signed returns -/
def SPost (w : World) (p : Option Addr) (n c : Nat) (Z : Int) (e : Ending) (w' : World) : Prop :=
  ∃ g, e = .returned (.agg #[.bool g, .slice p n c]) ∧ IsI w' g p n c Z ∧ w.grownBy w' none

theorem signed_any (hA : IsC w p n c N) (g : Bool) :
    Calls Tryd.prog 38 #[.bool g, .slice p n c] w (SPost w p n c (sg g N)) := by
  have hn : n = 0 ↔ N = 0 := by
    rw [← hA.len]
    constructor
    · intro h
      have h2 : dg 65536 N = [] := List.eq_nil_of_length_eq_zero h
      have := V_dg (B := 65536) (by omega) N
      rw [h2] at this; exact this.symm
    · rintro rfl; rfl
  have hd : decide (0 < n) = decide (0 < N) := by
    by_cases h : 0 < n
    · rw [decide_eq_true h, decide_eq_true (by omega)]
    · rw [decide_eq_false h, decide_eq_false (by omega)]
  have fin : ∀ w', w.grownBy w' none → IsI w' (g && decide (0 < n)) p n c (sg g N) := fun w' hg => ⟨by rw [sg_abs]; exact hA.keep hg, by rw [hd]; exact (sg_neg g N).symm⟩
  have FIN := hid fin
  clear fin hd hn
  cases g
  · go_enter Tryd.func38, Tryd.ntmps38
    go_wp2
    have hg := World.grownBy_alloc w (.cells #[.bool false, .slice p n c] 25) none
    exact bodyPost_ret (v := .agg #[.bool false, .slice p n c]) (by simp [results, Tryd.results38, go_sem]) rfl ⟨false, rfl, by simpa using FIN.out _ hg, hg⟩
  · go_enter Tryd.func38, Tryd.ntmps38
    go_wp2
    have hg := World.grownBy_alloc w (.cells #[.bool (decide (0 < n)), .slice p n c] 25) none
    exact bodyPost_ret (v := .agg #[.bool (decide (0 < n)), .slice p n c]) (by simp [results, Tryd.results38, go_sem]) rfl ⟨decide (0 < n), rfl, by simpa using FIN.out _ hg, hg⟩
end

end Go.Proofs.YthkgldpcgmnaiaaDoor
