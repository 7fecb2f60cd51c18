/-
  Contracts of the equality of digits and of numbers, in the program and in the reference.
-/
import Derived.Test.YtolpcclobmgneaaAstA
import Derived.Test.YtolpcclobmgneaaBox4
import Derived.IntWalk
set_option linter.unusedVariables false
set_option linter.unusedSimpArgs false
namespace Go.Proofs.Ytolpcclobmgneaa
open Go.RowKit _root_.Nm
theorem lists_step {xs ys : List Nat} {k : Nat} (h : ∀ j, j < k → xs[j]? = ys[j]?) (hk : xs[k]? = ys[k]?) : ∀ j, j < k + 1 → xs[j]? = ys[j]? := by
  intro j hj
  by_cases e : j = k
  · rw [e]; exact hk
  · exact h j (by omega)
theorem lists_end {xs ys : List Nat} (hl : xs.length = ys.length) (h : ∀ j, j < xs.length → xs[j]? = ys[j]?) : xs = ys := by
  apply List.ext_getElem? 
  intro j
  by_cases hj : j < xs.length
  · exact h j hj
  · rw [List.getElem?_eq_none (by omega), List.getElem?_eq_none (by omega)]
set_option maxHeartbeats 4000000 in
set_option maxRecDepth 100000 in
theorem eqNat_any (p q : Option Addr) (n c n' d : Nat) (xs ys : List Nat) (b : Bool) (hb : b = true ↔ xs = ys) (w : World) (h1 : IRd w .u16 p n c xs) (h2 : IRd w .u16 q n' d ys) :
    Calls Try.prog 16 #[.slice p n c, .slice q n' d] w fun e w' => e = .returned (.bool b) ∧ w.grownBy w' none := by
  have hl := h1.len
  have hc := h1.cap
  have hm := h1.max
  have hl2 := h2.len
  have hc2 := h2.cap
  have hm2 := h2.max
  have H1 := hid h1
  have H2 := hid h2
  have HB := hid hb
  clear h1 h2 hb
  by_cases hnn : n = n'
  · subst hnn
    go_enter Try.func16, Try.ntmps16
    go_wp2_with fail
    go_loopw [13] (fun x wr => ∃ k : Nat, k ≤ n ∧ x = .int .i64 k ∧ w.grownBy wr none ∧ ∀ j, j < k → xs[j]? = ys[j]?) (fun x _ => n - (intOf x).toNat)
    case atStart => exact ⟨0, Nat.zero_le _, rfl, grown_refl _ _, fun j h => absurd h (Nat.not_lt_zero j)⟩
    case round =>
      obtain ⟨k, hk, rfl, hg, hall⟩ := hrel
      by_cases hlt : k < n
      · obtain ⟨b1, o1, rfl, e1⟩ := (H1.out.keep hg).cel k (by omega)
        obtain ⟨b2, o2, rfl, e2⟩ := (H2.out.keep hg).cel k (by omega)
        have HS := hid (lists_step hall)
        have HX : Hid (xs[k]? = some (xs[k]'(by omega))) := hid (List.getElem?_eq_getElem (by omega))
        have HY : Hid (ys[k]? = some (ys[k]'(by omega))) := hid (List.getElem?_eq_getElem (by omega))
        clear hall
        generalize xs[k] = x at *
        generalize ys[k] = y at *
        by_cases hxy : x = y
        · subst hxy
          go_wp2_with fail
          go_quiet (fail)
          go_wp2_with fail
          exact ⟨⟨k + 1, by omega, by go_num, gdN hg _, HS.out (HX.out.trans HY.out.symm)⟩, by simp [intOf]; omega⟩
        · have hz : ¬ (x : Int) = (y : Int) := by omega
          obtain rfl : b = false := by
            rw [← Bool.not_eq_true, HB.out]
            rintro rfl
            have := HX.out.symm.trans HY.out
            exact hxy (by simpa using this)
          go_wp2_with fail
          go_quiet (fail)
          go_wp2_with fail
          go_ret
          exact ⟨rfl, gdN hg _⟩
      · obtain rfl : k = n := by omega
        obtain rfl : b = true := HB.out.2 (lists_end (by omega) (fun j hj => hall j (by omega)))
        go_wp2_with fail
        go_ret
        exact ⟨rfl, hg⟩
  · obtain rfl : b = false := by
      rw [← Bool.not_eq_true, HB.out]
      rintro rfl
      omega
    have hz : ¬ (n : Int) = (n' : Int) := by omega
    go_enter Try.func16, Try.ntmps16
    go_wp2_with fail
    go_ret
    exact ⟨rfl, grown_refl _ _⟩
set_option maxHeartbeats 4000000 in
set_option maxRecDepth 100000 in
theorem sameNat_any (p q : Option Addr) (n c n' d : Nat) (xs ys : List Nat) (b : Bool) (hb : b = true ↔ xs = ys) (w : World) (h1 : IRd w .u16 p n c xs) (h2 : IRd w .u16 q n' d ys) :
    Calls Try.prog 15 #[.slice p n c, .slice q n' d] w fun e w' => e = .returned (.bool b) ∧ w.grownBy w' none := by
  have hl := h1.len
  have hc := h1.cap
  have hm := h1.max
  have hl2 := h2.len
  have hc2 := h2.cap
  have hm2 := h2.max
  have H1 := hid h1
  have H2 := hid h2
  have HB := hid hb
  clear h1 h2 hb
  by_cases hnn : n = n'
  · subst hnn
    go_enter Try.func15, Try.ntmps15
    go_wp2_with fail
    go_loopw [13] (fun x wr => ∃ k : Nat, k ≤ n ∧ x = .int .i64 k ∧ w.grownBy wr none ∧ ∀ j, j < k → xs[j]? = ys[j]?) (fun x _ => n - (intOf x).toNat)
    case atStart => exact ⟨0, Nat.zero_le _, rfl, grown_refl _ _, fun j h => absurd h (Nat.not_lt_zero j)⟩
    case round =>
      obtain ⟨k, hk, rfl, hg, hall⟩ := hrel
      by_cases hlt : k < n
      · obtain ⟨b1, o1, rfl, e1⟩ := (H1.out.keep hg).cel k (by omega)
        obtain ⟨b2, o2, rfl, e2⟩ := (H2.out.keep hg).cel k (by omega)
        have HS := hid (lists_step hall)
        have HX : Hid (xs[k]? = some (xs[k]'(by omega))) := hid (List.getElem?_eq_getElem (by omega))
        have HY : Hid (ys[k]? = some (ys[k]'(by omega))) := hid (List.getElem?_eq_getElem (by omega))
        clear hall
        generalize xs[k] = x at *
        generalize ys[k] = y at *
        by_cases hxy : x = y
        · subst hxy
          go_wp2_with fail
          go_quiet (fail)
          go_wp2_with fail
          exact ⟨⟨k + 1, by omega, by go_num, gdN hg _, HS.out (HX.out.trans HY.out.symm)⟩, by simp [intOf]; omega⟩
        · have hz : ¬ (x : Int) = (y : Int) := by omega
          obtain rfl : b = false := by
            rw [← Bool.not_eq_true, HB.out]
            rintro rfl
            have := HX.out.symm.trans HY.out
            exact hxy (by simpa using this)
          go_wp2_with fail
          go_quiet (fail)
          go_wp2_with fail
          go_ret
          exact ⟨rfl, gdN hg _⟩
      · obtain rfl : k = n := by omega
        obtain rfl : b = true := HB.out.2 (lists_end (by omega) (fun j hj => hall j (by omega)))
        go_wp2_with fail
        go_ret
        exact ⟨rfl, hg⟩
  · obtain rfl : b = false := by
      rw [← Bool.not_eq_true, HB.out]
      rintro rfl
      omega
    have hz : ¬ (n : Int) = (n' : Int) := by omega
    go_enter Try.func15, Try.ntmps15
    go_wp2_with fail
    go_ret
    exact ⟨rfl, grown_refl _ _⟩
end Go.Proofs.Ytolpcclobmgneaa
