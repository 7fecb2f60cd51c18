/-
  Integers: what a struct stands for; contracts of integer.signed and Sign.
-/
import Derived.Test.YtdmlcddieadelaaGreatDoorVal
set_option linter.unusedVariables false
set_option linter.unusedSimpArgs false
namespace Go.Proofs.YtdmlcddieadelaaGreatDoor
open Go.RowKit Nm

/-- the integer with a sign and an absolute value -/
def sg (g : Bool) (N : Nat) : Int := if g then -(N : Int) else N
theorem sg_false (N : Nat) : sg false N = N := rfl
theorem sg_true (N : Nat) : sg true N = -(N : Int) := rfl
theorem sg_zero (g : Bool) : sg g 0 = 0 := by cases g <;> rfl
theorem sg_abs (g : Bool) (N : Nat) : (sg g N).natAbs = N := by cases g <;> simp [sg]
theorem sg_neg (g : Bool) (N : Nat) : decide (sg g N < 0) = (g && decide (0 < N)) := by
  cases g <;> simp [sg]

/-- the struct of g and .slice p n c stands for the integer Z, perhaps not in its valid form -/
def IsZ (w : World) (g : Bool) (p : Option Addr) (n c : Nat) (Z : Int) : Prop := IsN w p n c Z.natAbs ∧ Z = sg g Z.natAbs
/-- it is the valid Int of Z -/
def IsI (w : World) (g : Bool) (p : Option Addr) (n c : Nat) (Z : Int) : Prop := IsC w p n c Z.natAbs ∧ g = decide (Z < 0)

section
variable {w w' : World} {g h : Bool} {p q : Option Addr} {n c m d N M : Nat} {Z Y : Int}
theorem IsZ.of {xs : List Nat} (g : Bool) (h : IRd w .u16 p n c xs) (hx : Dg 65536 xs) : IsZ w g p n c (sg g (V 65536 xs)) :=
  ⟨by rw [sg_abs]; exact IsN.of h hx, by rw [sg_abs]⟩
theorem IsI.z (h : IsI w g p n c Z) : IsZ w g p n c Z := ⟨h.1.isN, by
  rw [h.2]; unfold sg
  by_cases hz : Z < 0
  · rw [decide_eq_true hz, if_pos rfl]; omega
  · rw [decide_eq_false hz]; simp; omega⟩
theorem IsZ.keep (h : IsZ w g p n c Z) (hg : w.grownBy w' none) : IsZ w' g p n c Z := ⟨h.1.keep hg, h.2⟩
theorem IsI.keep (h : IsI w g p n c Z) (hg : w.grownBy w' none) : IsI w' g p n c Z := ⟨h.1.keep hg, h.2⟩

/-- what was there reads as it did -/
theorem gcell {W w1 : World} (hb : W.grownBy w1 none) : ∀ b o, b < W.heap.size → w1.cell? ⟨b, o, none⟩ = W.cell? ⟨b, o, none⟩ := fun b o h => World.cell?_of_block (hb.block b h (by simp))
theorem gfree {W w1 : World} (hb : W.grownBy w1 none) : ∀ b o, b < W.heap.size → w1.frozen? ⟨b, o, none⟩ = W.frozen? ⟨b, o, none⟩ := fun b o h => World.frozen?_of_block (hb.block b h (by simp))

/-- what signed returns -/
def SPost (w : World) (p : Option Addr) (n c : Nat) (Z : Int) (e : Ending) (w' : World) : Prop :=
  ∃ g, e = .returned (.agg #[.bool g, .slice p n c]) ∧ IsI w' g p n c Z ∧ w.grownBy w' none

end

theorem intSign_any {w : World} {g : Bool} {p : Option Addr} {n c : Nat} {Z : Int} (h : IsZ w g p n c Z) (hn : n ≤ 900000000) :
    Calls Tryz.prog 101 #[.agg #[.bool g, .slice p n c]] w fun e w' => e = .returned (.int .i64 (cmpI Z 0)) ∧ w.grownBy w' none := by
  obtain ⟨hN, hZ⟩ := h
  generalize Z.natAbs = N at *
  subst hZ
  have hgb := World.grownBy_alloc w (.cells #[.bool g, .slice p n c] 35) none
  have B1 := hid (natBits_n (hN.keep hgb) hn)
  have hpos : ∀ b, IsBits N b → (b = 0 ↔ N = 0) := by
    intro b hb
    rcases hb with ⟨h1, h2⟩ | ⟨h1, h2, h3⟩
    · omega
    · have := Nat.pow_pos (n := b - 1) (show 0 < 2 by omega); omega
  by_cases h0 : N = 0
  · subst h0
    rw [sg_zero, cmpI_eq]
    have HP := hid hpos
    clear hpos
    go_enter Tryz.func101, Tryz.ntmps101
    go_wp2_with (go_at_call 121; refine B1.out.mono ?_; rintro e w' ⟨b, hb, rfl, HI, rfl⟩; obtain rfl := ((HP.out _ HI.out).2 rfl))
    go_ret
    exact ⟨rfl, hgb⟩
  · have HP := hid hpos
    clear hpos
    cases g
    · have : cmpI (sg false N) 0 = 1 := by rw [sg_false]; exact cmpI_gt (x := N) (y := 0) (by omega)
      rw [this]
      have h0' := hid h0
      clear h0 this
      go_enter Tryz.func101, Tryz.ntmps101
      go_wp2_with (go_at_call 121; refine B1.out.mono ?_; rintro e w' ⟨b, hb, rfl, HI, rfl⟩; have t0 : (((b : Int) == 0) = false) := beq_eq_false_iff_ne.2 (by have := (HP.out _ HI.out).1; have := h0'.out; omega))
      go_ret
      exact ⟨rfl, hgb⟩
    · have : cmpI (sg true N) 0 = -1 := by rw [sg_true]; unfold cmpI; rw [if_pos (by omega)]
      rw [this]
      have h0' := hid h0
      clear h0 this
      go_enter Tryz.func101, Tryz.ntmps101
      go_wp2_with (go_at_call 121; refine B1.out.mono ?_; rintro e w' ⟨b, hb, rfl, HI, rfl⟩; have t0 : (((b : Int) == 0) = false) := beq_eq_false_iff_ne.2 (by have := (HP.out _ HI.out).1; have := h0'.out; omega))
      go_ret
      exact ⟨rfl, hgb⟩
end Go.Proofs.YtdmlcddieadelaaGreatDoor
