/-
  Contracts of Mul, Lcm, Divides, Coprime, of their specification, and of Same.
-/
import Derived.Test.YtcmbdnkfihanmaaProg
import Derived.Test.YtcmbdnkfihanmaaMonoD
set_option linter.unusedVariables false
set_option linter.unusedSimpArgs false
namespace Go.Proofs.Ytcmbdnkfihanmaa
open Go.RowKit Nm

theorem _root_.Nm.RightZ.room {B : Int} {xs : List Int} (h : RightZ B xs) (hB : 0 ≤ B ∧ B ≤ 1099511627776) (i : Nat) : -1099511627776 ≤ ex xs i ∧ ex xs i ≤ 1099511627776 := by
  have := h.ex hB.1 i; omega
theorem mul_any (a b : Option Addr) (n m c d : Nat) (xs ys : List Int) (w : World) (h : ZRd w .i64 a n c xs) (k : ZRd w .i64 b m d ys) {B C : Int} (hx : RightZ B xs) (hy : RightZ C ys) (hB : 0 ≤ B ∧ B ≤ 1099511627776) (hC : 0 ≤ C ∧ C ≤ 1099511627776) :
    Calls Try.prog 34 #[.slice a n c, .slice b m d] w (ZRes w (trimZ (combZ (· + ·) xs ys))) := by
  have R := hid (combineAdd_any (· + ·) a b n m c d xs ys w h k (by have := hx.len; have := h.len; omega) (by have := hy.len; have := k.len; omega)
    (fun i w => fadd_any _ _ _ ⟨(hx.room hB i).1, (hx.room hB i).2, (hy.room hC i).1, (hy.room hC i).2⟩))
  go_enter Try.func34, Try.ntmps34
  go_wp2_with fail
  refine (R.out).mono ?_
  rintro e w' ⟨p, cc, rfl, hr, hg⟩
  go_wp2
  go_ret
  exact ⟨p, cc, rfl, hr, hg⟩
theorem lcm_any (a b : Option Addr) (n m c d : Nat) (xs ys : List Int) (w : World) (h : ZRd w .i64 a n c xs) (k : ZRd w .i64 b m d ys) {B C : Int} (hx : RightZ B xs) (hy : RightZ C ys) (hB : 0 ≤ B ∧ B ≤ 1099511627776) (hC : 0 ≤ C ∧ C ≤ 1099511627776) :
    Calls Try.prog 36 #[.slice a n c, .slice b m d] w (ZRes w (trimZ (combZ max xs ys))) := by
  have R := hid (combineMax_any max a b n m c d xs ys w h k (by have := hx.len; have := h.len; omega) (by have := hy.len; have := k.len; omega)
    (fun i w => fmax_any _ _ _))
  go_enter Try.func36, Try.ntmps36
  go_wp2_with fail
  refine (R.out).mono ?_
  rintro e w' ⟨p, cc, rfl, hr, hg⟩
  go_wp2
  go_ret
  exact ⟨p, cc, rfl, hr, hg⟩
def dvd (xs ys : List Int) : Prop := ∀ i, ex xs i ≤ ex ys i
def cop (xs ys : List Int) : Prop := ∀ i, ex xs i = 0 ∨ ex ys i = 0
theorem dvd_iff {xs ys : List Int} {B : Int} (hB : 0 ≤ B) (hy : RightZ B ys) : dvd xs ys ↔ ∀ j, j < xs.length → ex xs j ≤ ex ys j := by
  refine ⟨fun h j _ => h j, fun h i => ?_⟩
  rcases Nat.lt_or_ge i xs.length with hi | hi
  · exact h i hi
  · rw [ex_ge hi]; exact (hy.ex hB i).1
theorem cop_iff {xs ys : List Int} : cop xs ys ↔ ∀ j, j < xs.length → (ex xs j = 0 ∨ ex ys j = 0) := by
  refine ⟨fun h j _ => h j, fun h i => ?_⟩
  rcases Nat.lt_or_ge i xs.length with hi | hi
  · exact h i hi
  · exact .inl (ex_ge hi)
instance (xs ys : List Int) : Decidable (cop xs ys) := decidable_of_iff (∀ j, j < xs.length → (ex xs j = 0 ∨ ex ys j = 0)) cop_iff.symm
/-- (for lists without negative numbers) -/
def dvdB (xs ys : List Int) : Bool := decide (∀ j, j < xs.length → ex xs j ≤ ex ys j)
def copB (xs ys : List Int) : Bool := decide (∀ j, j < xs.length → (ex xs j = 0 ∨ ex ys j = 0))
theorem dvdB_iff {xs ys : List Int} {B : Int} (hB : 0 ≤ B) (hy : RightZ B ys) : dvdB xs ys = true ↔ dvd xs ys := by unfold dvdB; rw [decide_eq_true_iff]; exact (dvd_iff hB hy).symm
theorem copB_iff {xs ys : List Int} : copB xs ys = true ↔ cop xs ys := by unfold copB; rw [decide_eq_true_iff]; exact cop_iff.symm
/-- whether no exponent of xs is greater -/
theorem divides_any (a b : Option Addr) (n m c d : Nat) (xs ys : List Int) (w : World) (h : ZRd w .i64 a n c xs) (k : ZRd w .i64 b m d ys) :
    Calls Try.prog 38 #[.slice a n c, .slice b m d] w fun e w' => e = .returned (.bool (dvdB xs ys)) ∧ w = w' := by
  have HL := hid h.len
  have hcap := h.cap
  have hmax := h.max
  have R := hid (fun i => exp_nat b m d ys w k i)
  clear k
  go_enter Try.func38, Try.ntmps38
  go_wp2
  go_loop [9] (fun i => ∃ j : Nat, j ≤ n ∧ i = .int .i64 j ∧ Hid (∀ i, i < j → ex xs i ≤ ex ys i)) (fun i => n - (intOf i).toNat)
  case atStart => exact ⟨0, Nat.zero_le _, rfl, hid fun i h => by omega⟩
  case round =>
    obtain ⟨j, hj, rfl, HK⟩ := hrel
    by_cases hlt : j < n
    · have hi : j < xs.length := by rw [HL.out]; exact hlt
      obtain ⟨b1, o1, rfl, hci⟩ := h.cel j hi
      rw [← ex_lt hi] at hci
      have RR := R.out j
      have hji : (j : Int) < (n : Int) := by omega
      have step : (ex xs j ≤ ex ys j) → Hid (∀ i, i < j + 1 → ex xs i ≤ ex ys i) := fun hs => hid fun i hi' => by
        by_cases e : i = j
        · rw [e]; exact hs
        · exact HK.out i (by omega)
      have stop : ¬ (ex xs j ≤ ex ys j) → Hid (dvdB xs ys = false) := fun hs => hid (by
        unfold dvdB; exact decide_eq_false fun hh => hs (hh j hi))
      generalize ex xs j = x at *
      generalize ex ys j = y at *
      have HR := hid RR
      clear RR hi h
      by_cases hg : x ≤ y
      · have ST := step hg
        have hg2 : ¬ y < x := by omega
        clear step stop hg
        go_wp2_with (go_at_call 28; (with_reducible refine (HR.out).mono ?_); rintro e w' ⟨rfl, rfl⟩)
        exact ⟨⟨j + 1, by omega, rfl, ST⟩, by simp [intOf]; omega⟩
      · have ST := stop hg
        have hg2 : y < x := by omega
        clear step stop hg
        go_wp2_with (go_at_call 28; (with_reducible refine (HR.out).mono ?_); rintro e w' ⟨rfl, rfl⟩)
        go_ret
        rw [ST.out]
        exact ⟨rfl, rfl⟩
    · obtain rfl : j = n := by omega
      go_wp2
      go_ret
      have : dvdB xs ys = true := by
        unfold dvdB; rw [decide_eq_true_iff]; intro i hi; exact HK.out i (by rw [← HL.out]; exact hi)
      rw [this]
      exact ⟨rfl, rfl⟩
/-- whether no variable occurs in both -/
theorem coprime_any (a b : Option Addr) (n m c d : Nat) (xs ys : List Int) (w : World) (h : ZRd w .i64 a n c xs) (k : ZRd w .i64 b m d ys) :
    Calls Try.prog 40 #[.slice a n c, .slice b m d] w fun e w' => e = .returned (.bool (copB xs ys)) ∧ w = w' := by
  have HL := hid h.len
  have hcap := h.cap
  have hmax := h.max
  have R := hid (fun i => exp_nat b m d ys w k i)
  clear k
  go_enter Try.func40, Try.ntmps40
  go_wp2
  go_loop [9] (fun i => ∃ j : Nat, j ≤ n ∧ i = .int .i64 j ∧ Hid (∀ i, i < j → ex xs i = 0 ∨ ex ys i = 0)) (fun i => n - (intOf i).toNat)
  case atStart => exact ⟨0, Nat.zero_le _, rfl, hid fun i h => by omega⟩
  case round =>
    obtain ⟨j, hj, rfl, HK⟩ := hrel
    by_cases hlt : j < n
    · have hi : j < xs.length := by rw [HL.out]; exact hlt
      obtain ⟨b1, o1, rfl, hci⟩ := h.cel j hi
      rw [← ex_lt hi] at hci
      have RR := R.out j
      have hji : (j : Int) < (n : Int) := by omega
      have step : (ex xs j = 0 ∨ ex ys j = 0) → Hid (∀ i, i < j + 1 → ex xs i = 0 ∨ ex ys i = 0) := fun hs => hid fun i hi' => by
        by_cases e : i = j
        · rw [e]; exact hs
        · exact HK.out i (by omega)
      have stop : ¬ (ex xs j = 0 ∨ ex ys j = 0) → Hid (copB xs ys = false) := fun hs => hid (by
        unfold copB; exact decide_eq_false fun hh => hs (hh j hi))
      generalize ex xs j = x at *
      generalize ex ys j = y at *
      have HR := hid RR
      clear RR hi h
      by_cases hx : x = 0
      · have ST := step (.inl hx)
        have hx2 : ((x : Int) != 0) = false := by simpa using hx
        clear step stop hx
        go_wp2
        exact ⟨⟨j + 1, by omega, rfl, ST⟩, by simp [intOf]; omega⟩
      · have hx2 : ((x : Int) != 0) = true := by simpa using hx
        by_cases hy : y = 0
        · have ST := step (.inr hy)
          have hy2 : ((y : Int) != 0) = false := by simpa using hy
          clear step stop hx hy
          go_wp2_with (go_at_call 28; (with_reducible refine (HR.out).mono ?_); rintro e w' ⟨rfl, rfl⟩)
          exact ⟨⟨j + 1, by omega, rfl, ST⟩, by simp [intOf]; omega⟩
        · have ST := stop (fun h => h.elim hx hy)
          have hy2 : ((y : Int) != 0) = true := by simpa using hy
          clear step stop hx hy
          go_wp2_with (go_at_call 28; (with_reducible refine (HR.out).mono ?_); rintro e w' ⟨rfl, rfl⟩)
          go_ret
          rw [ST.out]
          exact ⟨rfl, rfl⟩
    · obtain rfl : j = n := by omega
      go_wp2
      go_ret
      have : copB xs ys = true := by
        unfold copB; rw [decide_eq_true_iff]; intro i hi; exact HK.out i (by rw [← HL.out]; exact hi)
      rw [this]
      exact ⟨rfl, rfl⟩
end Go.Proofs.Ytcmbdnkfihanmaa
