/-
  Divisors and common multiples of monomials, as the functions tell them.
-/
import Derived.Test.YtcmbdnkfihanmaaMonoI
import Derived.Test.YtcmbdnkfihanmaaMonoP
set_option linter.unusedVariables false
set_option linter.unusedSimpArgs false
namespace Go.Proofs.Ytcmbdnkfihanmaa
open Go.RowKit Nm

section
variable {B C D : Int} {xs ys zs : List Int}
theorem dvd_mul (hp : RightZ C (mulZ xs ys)) (hC : 0 ≤ C) (hx : RightZ B xs) (hB : 0 ≤ B) : dvdB ys (mulZ xs ys) = true :=
  (dvdB_iff hC hp).2 fun i => by rw [ex_mulZ]; have := (hx.ex hB i).1; omega
theorem quoZ_mul (hp : RightZ C (mulZ xs ys)) (hC : 0 ≤ C) (hx : RightZ B xs) (hB : 0 ≤ B) : quoZ (mulZ xs ys) ys = xs := by
  unfold quoZ
  rw [if_pos (dvd_mul hp hC hx hB)]
  exact quo_mul hx.last
theorem dvd_lcm1 (hl : RightZ C (lcmZ xs ys)) (hC : 0 ≤ C) : dvdB xs (lcmZ xs ys) = true :=
  (dvdB_iff hC hl).2 fun i => by rw [ex_lcmZ]; omega
theorem dvd_lcm2 (hl : RightZ C (lcmZ xs ys)) (hC : 0 ≤ C) : dvdB ys (lcmZ xs ys) = true :=
  (dvdB_iff hC hl).2 fun i => by rw [ex_lcmZ]; omega
theorem lcm_dvd (hz : RightZ C zs) (hC : 0 ≤ C) (h1 : dvdB xs zs = true) (h2 : dvdB ys zs = true) : dvdB (lcmZ xs ys) zs = true :=
  (dvdB_iff hC hz).2 fun i => by
    have a := (dvdB_iff hC hz).1 h1 i
    have b := (dvdB_iff hC hz).1 h2 i
    rw [ex_lcmZ]; omega
theorem lcm_dvd_mul (hm : RightZ C (mulZ zs (mulZ xs ys))) (hC : 0 ≤ C) (hx : RightZ B xs) (hy : RightZ B ys) (hz : RightZ B zs) (hB : 0 ≤ B) : dvdB (lcmZ xs ys) (mulZ zs (mulZ xs ys)) = true :=
  (dvdB_iff hC hm).2 fun i => by
    have a := (hx.ex hB i).1
    have b := (hy.ex hB i).1
    have c := (hz.ex hB i).1
    rw [ex_lcmZ, ex_mulZ, ex_mulZ]; omega
theorem lcm_is_mul (hx : RightZ B xs) (hy : RightZ B ys) (hB : 0 ≤ B) : decide (lcmZ xs ys = mulZ xs ys) = copB xs ys := by
  rw [Bool.eq_iff_iff, decide_eq_true_iff, copB_iff]
  refine ⟨fun e i => ?_, fun h => ext_ex (trimZ_last _) (trimZ_last _) fun i => ?_⟩
  · have a := (hx.ex hB i).1
    have b := (hy.ex hB i).1
    have c := ex_lcmZ xs ys i
    rw [e, ex_mulZ] at c
    omega
  · have a := (hx.ex hB i).1
    have b := (hy.ex hB i).1
    have c := h i
    rw [ex_lcmZ, ex_mulZ]; omega
end
theorem rightM_true {a : Option Addr} {n c : Nat} {xs : List Int} {w : World} (h : ZRd w .i64 a n c xs) (hr : RightZ 1048576 xs) :
    Calls Try.prog 21 #[.slice a n c] w fun e w' => e = .returned (.bool true) ∧ w = w' := by
  have := right_any a n c xs w h
  rwa [decide_eq_true hr] at this
theorem divides_is {a b : Option Addr} {n m c d : Nat} {xs ys : List Int} {w : World} (h : ZRd w .i64 a n c xs) (k : ZRd w .i64 b m d ys) {q : Bool} (e : dvdB xs ys = q) :
    Calls Try.prog 38 #[.slice a n c, .slice b m d] w fun e w' => e = .returned (.bool q) ∧ w = w' := by
  have := divides_any a b n m c d xs ys w h k
  rwa [e] at this
end Go.Proofs.Ytcmbdnkfihanmaa
