/-
  Contracts of natural.Shift and of the reference's Shift: numbers times, and divided by, a power of 2, and 0 out of range.
-/
import Derived.Test.YtkggoniecmlglaaDoorShL
import Derived.Test.YtkggoniecmlglaaDoorRefDiv
import Derived.Deep.RegionHeld3
import Derived.IntWalk
set_option linter.unusedVariables false
set_option linter.unusedSimpArgs false
namespace Go.Proofs.YtkggoniecmlglaaDoor
open Go.RowKit Nm

section
variable {w : World} {p : Option Addr} {n c N : Nat}
theorem natShift_out (z : Int) (h : z < -1048576 ∨ 1048576 < z) (hz : -9223372036854775808 ≤ z ∧ z ≤ 9223372036854775807) :
    Calls Tryd.prog 19 #[.slice p n c, .int .i64 z] w fun e w' => e = .returned (.slice none 0 0) ∧ w = w' := by
  rcases h with h | h
  · go_enter Tryd.func19, Tryd.ntmps19
    go_wp2
    go_ret
    exact ⟨rfl, rfl⟩
  · have h' : ¬ z < -1048576 := by omega
    go_enter Tryd.func19, Tryd.ntmps19
    go_wp2
    go_ret
    exact ⟨rfl, rfl⟩

theorem natShift_up (s : Nat) (hA : IsN w p n c N) (hn : n ≤ 400000) (hs : s ≤ 1048576) :
    Calls Tryd.prog 19 #[.slice p n c, .int .i64 s] w fun e w' => ∃ p' n' c', e = .returned (.slice p' n' c') ∧ IsC w' p' n' c' (N * 2 ^ s) ∧ n' ≤ n + s / 16 + 1 ∧ w.grownBy w' none := by
  have h1 : ¬ ((s : Int) < -1048576) := by omega
  have h2 : ¬ ((1048576 : Int) < (s : Int)) := by omega
  have h3 : ¬ ((s : Int) < 0) := by omega
  have H := hid (shiftLeft_n (s := s) hA hn (by omega))
  go_enter Tryd.func19, Tryd.ntmps19
  go_wp2_with fail
  refine H.out.mono ?_
  rintro e w1 ⟨p1, n1, c1, rfl, hq, hn1, hg⟩
  go_wp2_with fail
  go_ret
  exact ⟨p1, n1, c1, rfl, hq, hn1, hg⟩

theorem natShift_down (s : Nat) (z : Int) (hz : z = -(s : Int)) (hA : IsN w p n c N) (hn : n ≤ 400000) (hs0 : 1 ≤ s) (hs : s ≤ 1048576) :
    Calls Tryd.prog 19 #[.slice p n c, .int .i64 z] w fun e w' => ∃ p' n' c', e = .returned (.slice p' n' c') ∧ IsC w' p' n' c' (N / 2 ^ s) ∧ n' ≤ n ∧ w.grownBy w' none := by
  have h1 : ¬ (z < -1048576) := by omega
  have h2 : ¬ ((1048576 : Int) < z) := by omega
  have h3 : z < 0 := by omega
  have e1 : -z = (s : Int) := by omega
  have H := hid (shiftRight_n (s := s) hA hn (by omega))
  clear hz
  go_enter Tryd.func19, Tryd.ntmps19
  go_wp2_with fail
  refine H.out.mono ?_
  rintro e w1 ⟨p1, n1, c1, rfl, hq, hn1, hg⟩
  go_wp2_with fail
  go_ret
  exact ⟨p1, n1, c1, rfl, hq, hn1, hg⟩


theorem pow16 (r : Nat) (h : r < 16) : 2 ^ r < 65536 := Nat.lt_of_le_of_lt (Nat.pow_le_pow_right (by omega) (show r ≤ 15 by omega)) (by decide)


end
end Go.Proofs.YtkggoniecmlglaaDoor
