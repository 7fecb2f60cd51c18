/-
  Contract of natural.DivMod for numbers of at most four limbs.
-/
import Derived.Test.YthkgldpcgmnaiaaDoorForms
import Derived.Deep.RegionWith
set_option linter.unusedVariables false
set_option linter.unusedSimpArgs false
namespace Go.Proofs.YthkgldpcgmnaiaaDoor
open Go.RowKit Nm

theorem of_at (z : Int) (x : Nat) (hz : z = (x : Int)) (hx : x < W64) (w : World) :
    Calls Tryd.prog 21 #[.int .u64 z] w fun e w' => ∃ a' c', e = .returned (.slice a' (dg 65536 x).length c') ∧ IRd w' .u16 a' (dg 65536 x).length c' (dg 65536 x) ∧ w.grownBy w' none := by
  subst hz; exact of_any x hx w

/-- what DivMod returns: the quotient and the rest, canonical, and no error -/
def DmPost (w : World) (X Y : Nat) (e : Ending) (w' : World) : Prop :=
  ∃ (a1 a2 : Option Addr) (c1 c2 : Nat), e = .returned (.tuple #[.slice a1 (dg 65536 (X / Y)).length c1, .slice a2 (dg 65536 (X % Y)).length c2, .int .i64 0]) ∧
    IRd w' .u16 a1 (dg 65536 (X / Y)).length c1 (dg 65536 (X / Y)) ∧ IRd w' .u16 a2 (dg 65536 (X % Y)).length c2 (dg 65536 (X % Y)) ∧ w.grownBy w' none

set_option maxHeartbeats 1000000 in
theorem natDivMod_small (a b : Option Addr) (n m c d : Nat) (xs ys : List Nat) (w : World) (h : IRd w .u16 a n c xs) (k : IRd w .u16 b m d ys) (hx : Dg 65536 xs) (hy : Dg 65536 ys)
    (h4 : (trimR xs).length ≤ 4) (hle : (trimR ys).length ≤ (trimR xs).length) (hpos : 0 < V 65536 ys) :
    Calls Tryd.prog 47 #[.slice a n c, .slice b m d] w (DmPost w (V 65536 xs) (V 65536 ys)) := by
  have ht := h.take (trimR xs).length (by rw [← h.len]; exact trimR_length_le xs)
  have kt := k.take (trimR ys).length (by rw [← k.len]; exact trimR_length_le ys)
  rw [← trimR_eq_take] at ht kt
  have hcx := Can_trimR hx
  have hcy := Can_trimR hy
  have hvx := V_trimR (B := 65536) xs
  have hvy := V_trimR (B := 65536) ys
  have R1 := hid (trim16 a n c xs w h)
  have R2 := hid (trim16 b m d ys w k)
  rw [← hvy] at hpos ⊢
  rw [← hvx]
  generalize trimR xs = us at *
  generalize trimR ys = vs at *
  clear hvx hvy h k
  have hxb : V 65536 us < W64 := by rw [W64_eq]; exact V_word hcx.1 4 h4
  have hyb : V 65536 vs < W64 := by rw [W64_eq]; exact V_word hcy.1 4 (by omega)
  have W1 := hid (word_any a us.length c us w ht hcx.1 h4)
  have W2 := hid (word_any b vs.length d vs w kt hcy.1 (by omega))
  have hv0 : 0 < vs.length := by
    rcases Nat.eq_zero_or_pos vs.length with h0 | h0
    · rw [List.eq_nil_of_length_eq_zero h0] at hpos; simp at hpos
    · exact h0
  generalize V 65536 us = x at *
  generalize V 65536 vs = y at *
  have e1 : (((vs.length : Int) == 0) = false) := beq_eq_false_iff_ne.2 (by omega)
  have e2 : ¬ ((us.length : Int) < (vs.length : Int)) := by omega
  have e3 : ((us.length : Int) ≤ 4) := by omega
  have hq : x / y < W64 := Nat.lt_of_le_of_lt (Nat.div_le_self _ _) hxb
  have hr : x % y < W64 := Nat.lt_of_le_of_lt (Nat.mod_le _ _) hxb
  have hy1 : (1 : Int) ≤ (y : Int) := by omega
  have hx0 : (0 : Int) ≤ (x : Int) := by omega
  have HZQ : Hid (IntKind.u64.wrap ((x : Int) / (y : Int)) = ((x / y : Nat) : Int)) := hid (by rw [← Int.natCast_ediv]; exact wrap_in _ hq)
  have HZ2 : Hid ((x : Int) % (y : Int) = ((x % y : Nat) : Int)) := hid (by simp)
  have HZR : Hid ((x : Int).tmod (y : Int) = ((x % y : Nat) : Int)) := hid rfl
  go_enter Tryd.func47, Tryd.ntmps47
  go_wp2_with (first
    | (go_at_call 61; (with_reducible refine (R1.out).mono ?_); rintro e w' ⟨rfl, rfl⟩)
    | (go_at_call 61; (with_reducible refine (R2.out).mono ?_); rintro e w' ⟨rfl, rfl⟩)
    | (go_at_call 65; (with_reducible refine (W1.out).mono ?_); rintro e w' ⟨rfl, rfl⟩)
    | (go_at_call 65; (with_reducible refine (W2.out).mono ?_); rintro e w' ⟨rfl, rfl⟩))
  go_region_with (first
    | ((with_reducible refine (of_at _ (x / y) HZQ.out hq _).mono ?_); rintro e w1 ⟨p1, c1, rfl, hr1, hg1⟩)
    | ((with_reducible refine (of_at _ (x % y) HZR.out hr _).mono ?_); rintro e w2 ⟨p2, c2, rfl, hr2, hg2⟩)
    | ((with_reducible refine (of_at _ (x % y) HZ2.out hr _).mono ?_); rintro e w2 ⟨p2, c2, rfl, hr2, hg2⟩))
  all_goals go_wp2
  all_goals go_ret3
  all_goals first
    | exact ⟨p1, p2, c1, c2, rfl, hr1.keep hg2, hr2, grown_trans (grown_drew w none) (grown_trans hg1 hg2)⟩
    | exact ⟨p1, p2, c1, c2, rfl, hr1, hr2.keep hg1, grown_trans (grown_drew w none) (grown_trans hg2 hg1)⟩

end Go.Proofs.YthkgldpcgmnaiaaDoor
