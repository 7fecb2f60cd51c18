/-
  Contracts of Cmp and of its specification.
-/
import Derived.Test.YtcmbdnkfihanmaaProg
import Derived.Test.YtcmbdnkfihanmaaMonoF
import Derived.Lib.MinMax
set_option linter.unusedVariables false
set_option linter.unusedSimpArgs false
namespace Go.Proofs.Ytcmbdnkfihanmaa
open Go.RowKit Nm

theorem _root_.Nm.RightZ.deg {B : Int} {xs : List Int} (hx : RightZ B xs) (hB : 0 ≤ B ∧ B ≤ 4294967296) : 0 ≤ degZ xs ∧ degZ xs ≤ 274877906944 := by
  have h1 := sumN_nonneg (fun i => (hx.ex hB.1 i).1) xs.length
  have h2 := sumN_le (fun i => (hx.ex hB.1 i).2) xs.length
  have h3 := hx.len
  have h4 : (xs.length : Int) * B ≤ 64 * B := Int.mul_le_mul_of_nonneg_right (by omega) hB.1
  unfold degZ
  omega
set_option maxHeartbeats 1000000 in
theorem cmpM_any (a b : Option Addr) (n m c d : Nat) (xs ys : List Int) (o : Int) (w : World) (h : ZRd w .i64 a n c xs) (k : ZRd w .i64 b m d ys) {B C : Int} (hx : RightZ B xs) (hy : RightZ C ys) (hB : 0 ≤ B ∧ B ≤ 4294967296) (hC : 0 ≤ C ∧ C ≤ 4294967296) :
    Calls Try.prog 42 #[.slice a n c, .slice b m d, .int .i64 o] w fun e w' => e = .returned (.int .i64 (ordZ o xs ys)) ∧ w = w' := by
  have HL := hid h.len
  have KL := hid k.len
  have hcap := h.cap
  have hmax := h.max
  have kcap := k.cap
  have kmax := k.max
  have hn : n ≤ 64 := by rw [← HL.out]; exact hx.len
  have hm : m ≤ 64 := by rw [← KL.out]; exact hy.len
  have XB := hid (fun i => hx.room ⟨hB.1, by omega⟩ i)
  have YB := hid (fun i => hy.room ⟨hC.1, by omega⟩ i)
  have DX := hx.deg hB
  have DY := hy.deg hC
  obtain ⟨d1, d2⟩ := DX
  obtain ⟨d3, d4⟩ := DY
  have R1 := hid (fun i => exp_nat a n c xs w h i)
  have R2 := hid (fun i => exp_nat b m d ys w k i)
  have D1 := hid (degree_any a n c xs w h hx hB)
  have D2 := hid (degree_any b m d ys w k hy hC)
  obtain ⟨q, hq⟩ : ∃ q, q = max n m := ⟨_, rfl⟩
  have hqi : max (n : Int) (m : Int) = (q : Int) := by omega
  have hqb : q ≤ 64 := by omega
  have HLL : Hid (lexL xs ys = lexZ (ex xs) (ex ys) q) := hid (lexL_of xs ys (by rw [HL.out]; omega) (by rw [KL.out]; omega))
  clear hq hx hy h k
  by_cases ho : o = 1
  · by_cases hd : degZ xs = degZ ys
    · rw [show ordZ o xs ys = lexL xs ys from if_neg (fun h => h.2 hd)]
      subst ho
      rw [← hd] at D2
      have C : Hid (∀ W : World, Calls Try.prog 63 #[.int .i64 (degZ xs), .int .i64 (degZ xs)] W fun e w' => e = .returned (.int .i64 0) ∧ W = w') := hid (fun W => by have := cmpZ_any (degZ xs) (degZ xs) W; rwa [cmpZ_self] at this)
      clear hd
      generalize degZ xs = dx at *
      go_enter Try.func42, Try.ntmps42
      go_wp2_with (first
        | (go_at_call 26; (with_reducible refine (D1.out).mono ?_); rintro e w' ⟨rfl, rfl⟩)
        | (go_at_call 26; (with_reducible refine (D2.out).mono ?_); rintro e w' ⟨rfl, rfl⟩)
        | (go_at_call 63; (with_reducible refine (C.out _).mono ?_); rintro e w' ⟨rfl, rfl⟩))
      clear hqi C
      go_loop [8] (fun i => ∃ k : Nat, k ≤ q ∧ i = .int .i64 ((k : Int) - 1) ∧ Hid (lexL xs ys = lexZ (ex xs) (ex ys) k)) (fun i => (intOf i + 1).toNat)
      case atStart => exact ⟨q, Nat.le_refl _, rfl, HLL⟩
      case round =>
        obtain ⟨k, hk, rfl, HK⟩ := hrel
        by_cases h0 : 0 < k
        · obtain ⟨i, rfl⟩ : ∃ i, k = i + 1 := ⟨k - 1, by omega⟩
          have L1 := R1.out i
          have L2 := R2.out i
          have B1 := XB.out i
          have B2 := YB.out i
          have hst : lexZ (ex xs) (ex ys) (i + 1) = if ex xs i = ex ys i then lexZ (ex xs) (ex ys) i else cmpZ (ex xs i) (ex ys i) := rfl
          have hi0 : (0 : Int) ≤ (i : Int) := by omega
          generalize ex xs i = x at *
          generalize ex ys i = y at *
          obtain ⟨b1, b2⟩ := B1
          obtain ⟨b3, b4⟩ := B2
          by_cases e : x = y
          · subst e
            rw [if_pos rfl] at hst
            have HK2 : Hid (lexL xs ys = lexZ (ex xs) (ex ys) i) := hid (by rw [HK.out, hst])
            clear hst
            have H1 := hid L1
            have H2 := hid L2
            clear L1 L2
            have C : Hid (∀ W : World, Calls Try.prog 63 #[.int .i64 x, .int .i64 x] W fun e w' => e = .returned (.int .i64 0) ∧ W = w') := hid (fun W => by have := cmpZ_any x x W; rwa [cmpZ_self] at this)
            go_wp2_with (first
              | (go_at_call 28; (with_reducible refine (H1.out).mono ?_); rintro e w' ⟨rfl, rfl⟩)
              | (go_at_call 28; (with_reducible refine (H2.out).mono ?_); rintro e w' ⟨rfl, rfl⟩)
              | (go_at_call 63; (with_reducible refine (C.out _).mono ?_); rintro e w' ⟨rfl, rfl⟩))
            exact ⟨⟨i, by omega, rfl, HK2⟩, by simp [intOf]⟩
          · rw [if_neg e] at hst
            have HK2 : Hid (lexL xs ys = cmpZ x y) := hid (by rw [HK.out, hst])
            clear hst
            have H1 := hid L1
            have H2 := hid L2
            clear L1 L2
            have hz : cmpZ x y ≠ 0 := fun h => e ((cmpZ_zero x y).1 h)
            have C := hid (fun W => cmpZ_any x y W)
            generalize cmpZ x y = z at *
            have hz2 : ((z : Int) != 0) = true := by simpa using hz
            clear e hz
            go_wp2_with (first
              | (go_at_call 28; (with_reducible refine (H1.out).mono ?_); rintro e w' ⟨rfl, rfl⟩)
              | (go_at_call 28; (with_reducible refine (H2.out).mono ?_); rintro e w' ⟨rfl, rfl⟩)
              | (go_at_call 63; (with_reducible refine (C.out _).mono ?_); rintro e w' ⟨rfl, rfl⟩))
            go_ret
            rw [HK2.out]
            exact ⟨rfl, rfl⟩
        · obtain rfl : k = 0 := by omega
          go_wp2
          go_ret
          rw [HK.out]
          exact ⟨rfl, rfl⟩
    · rw [show ordZ o xs ys = cmpZ (degZ xs) (degZ ys) from if_pos ⟨ho, hd⟩]
      subst ho
      have hz : cmpZ (degZ xs) (degZ ys) ≠ 0 := fun h => hd ((cmpZ_zero _ _).1 h)
      have C := hid (fun W => cmpZ_any (degZ xs) (degZ ys) W)
      generalize cmpZ (degZ xs) (degZ ys) = z at *
      have hz2 : ((z : Int) != 0) = true := by simpa using hz
      clear hz hd
      generalize degZ xs = dx at *
      generalize degZ ys = dy at *
      go_enter Try.func42, Try.ntmps42
      go_wp2_with (first
        | (go_at_call 26; (with_reducible refine (D1.out).mono ?_); rintro e w' ⟨rfl, rfl⟩)
        | (go_at_call 26; (with_reducible refine (D2.out).mono ?_); rintro e w' ⟨rfl, rfl⟩)
        | (go_at_call 63; (with_reducible refine (C.out _).mono ?_); rintro e w' ⟨rfl, rfl⟩))
      go_ret
      exact ⟨rfl, rfl⟩
  · rw [show ordZ o xs ys = lexL xs ys from if_neg (fun h => ho h.1)]
    have ho2 : ((o : Int) == 1) = false := by simpa using ho
    go_enter Try.func42, Try.ntmps42
    go_wp2
    clear hqi
    go_loop [8] (fun i => ∃ k : Nat, k ≤ q ∧ i = .int .i64 ((k : Int) - 1) ∧ Hid (lexL xs ys = lexZ (ex xs) (ex ys) k)) (fun i => (intOf i + 1).toNat)
    case atStart => exact ⟨q, Nat.le_refl _, rfl, HLL⟩
    case round =>
      obtain ⟨k, hk, rfl, HK⟩ := hrel
      by_cases h0 : 0 < k
      · obtain ⟨i, rfl⟩ : ∃ i, k = i + 1 := ⟨k - 1, by omega⟩
        have L1 := R1.out i
        have L2 := R2.out i
        have B1 := XB.out i
        have B2 := YB.out i
        have hst : lexZ (ex xs) (ex ys) (i + 1) = if ex xs i = ex ys i then lexZ (ex xs) (ex ys) i else cmpZ (ex xs i) (ex ys i) := rfl
        have hi0 : (0 : Int) ≤ (i : Int) := by omega
        generalize ex xs i = x at *
        generalize ex ys i = y at *
        obtain ⟨b1, b2⟩ := B1
        obtain ⟨b3, b4⟩ := B2
        by_cases e : x = y
        · subst e
          rw [if_pos rfl] at hst
          have HK2 : Hid (lexL xs ys = lexZ (ex xs) (ex ys) i) := hid (by rw [HK.out, hst])
          clear hst
          have H1 := hid L1
          have H2 := hid L2
          clear L1 L2
          have C : Hid (∀ W : World, Calls Try.prog 63 #[.int .i64 x, .int .i64 x] W fun e w' => e = .returned (.int .i64 0) ∧ W = w') := hid (fun W => by have := cmpZ_any x x W; rwa [cmpZ_self] at this)
          go_wp2_with (first
            | (go_at_call 28; (with_reducible refine (H1.out).mono ?_); rintro e w' ⟨rfl, rfl⟩)
            | (go_at_call 28; (with_reducible refine (H2.out).mono ?_); rintro e w' ⟨rfl, rfl⟩)
            | (go_at_call 63; (with_reducible refine (C.out _).mono ?_); rintro e w' ⟨rfl, rfl⟩))
          exact ⟨⟨i, by omega, rfl, HK2⟩, by simp [intOf]⟩
        · rw [if_neg e] at hst
          have HK2 : Hid (lexL xs ys = cmpZ x y) := hid (by rw [HK.out, hst])
          clear hst
          have H1 := hid L1
          have H2 := hid L2
          clear L1 L2
          have hz : cmpZ x y ≠ 0 := fun h => e ((cmpZ_zero x y).1 h)
          have C := hid (fun W => cmpZ_any x y W)
          generalize cmpZ x y = z at *
          have hz2 : ((z : Int) != 0) = true := by simpa using hz
          clear e hz
          go_wp2_with (first
            | (go_at_call 28; (with_reducible refine (H1.out).mono ?_); rintro e w' ⟨rfl, rfl⟩)
            | (go_at_call 28; (with_reducible refine (H2.out).mono ?_); rintro e w' ⟨rfl, rfl⟩)
            | (go_at_call 63; (with_reducible refine (C.out _).mono ?_); rintro e w' ⟨rfl, rfl⟩))
          go_ret
          rw [HK2.out]
          exact ⟨rfl, rfl⟩
      · obtain rfl : k = 0 := by omega
        go_wp2
        go_ret
        rw [HK.out]
        exact ⟨rfl, rfl⟩
set_option maxHeartbeats 1000000 in
theorem rcmpM_any (a b : Option Addr) (n m c d : Nat) (xs ys : List Int) (o : Int) (w : World) (h : ZRd w .i64 a n c xs) (k : ZRd w .i64 b m d ys) {B C : Int} (hx : RightZ B xs) (hy : RightZ C ys) (hB : 0 ≤ B ∧ B ≤ 4294967296) (hC : 0 ≤ C ∧ C ≤ 4294967296) :
    Calls Try.prog 43 #[.slice a n c, .slice b m d, .int .i64 o] w fun e w' => e = .returned (.int .i64 (ordZ o xs ys)) ∧ w = w' := by
  have HL := hid h.len
  have KL := hid k.len
  have hcap := h.cap
  have hmax := h.max
  have kcap := k.cap
  have kmax := k.max
  have hn : n ≤ 64 := by rw [← HL.out]; exact hx.len
  have hm : m ≤ 64 := by rw [← KL.out]; exact hy.len
  have XB := hid (fun i => hx.room ⟨hB.1, by omega⟩ i)
  have YB := hid (fun i => hy.room ⟨hC.1, by omega⟩ i)
  have DX := hx.deg hB
  have DY := hy.deg hC
  obtain ⟨d1, d2⟩ := DX
  obtain ⟨d3, d4⟩ := DY
  have R1 := hid (fun i => rexp_nat a n c xs w h i)
  have R2 := hid (fun i => rexp_nat b m d ys w k i)
  have D1 := hid (rdegree_any a n c xs w h hx hB)
  have D2 := hid (rdegree_any b m d ys w k hy hC)
  obtain ⟨q, hq⟩ : ∃ q, q = max n m := ⟨_, rfl⟩
  have hqi : max (n : Int) (m : Int) = (q : Int) := by omega
  have hqb : q ≤ 64 := by omega
  have HLL : Hid (lexL xs ys = lexZ (ex xs) (ex ys) q) := hid (lexL_of xs ys (by rw [HL.out]; omega) (by rw [KL.out]; omega))
  clear hq hx hy h k
  by_cases ho : o = 1
  · by_cases hd : degZ xs = degZ ys
    · rw [show ordZ o xs ys = lexL xs ys from if_neg (fun h => h.2 hd)]
      subst ho
      rw [← hd] at D2
      clear hd
      have hz3 : ((degZ xs : Int) != degZ xs) = false := by simp
      generalize degZ xs = dx at *
      go_enter Try.func43, Try.ntmps43
      go_wp2_with (first
        | (go_at_call 27; (with_reducible refine (D1.out).mono ?_); rintro e w' ⟨rfl, rfl⟩)
        | (go_at_call 27; (with_reducible refine (D2.out).mono ?_); rintro e w' ⟨rfl, rfl⟩))
      clear hqi
      go_loop [7] (fun i => ∃ k : Nat, k ≤ q ∧ i = .int .i64 ((k : Int) - 1) ∧ Hid (lexL xs ys = lexZ (ex xs) (ex ys) k)) (fun i => (intOf i + 1).toNat)
      case atStart => exact ⟨q, Nat.le_refl _, rfl, HLL⟩
      case round =>
        obtain ⟨k, hk, rfl, HK⟩ := hrel
        by_cases h0 : 0 < k
        · obtain ⟨i, rfl⟩ : ∃ i, k = i + 1 := ⟨k - 1, by omega⟩
          have L1 := R1.out i
          have L2 := R2.out i
          have B1 := XB.out i
          have B2 := YB.out i
          have hst : lexZ (ex xs) (ex ys) (i + 1) = if ex xs i = ex ys i then lexZ (ex xs) (ex ys) i else cmpZ (ex xs i) (ex ys i) := rfl
          have hi0 : (0 : Int) ≤ (i : Int) := by omega
          generalize ex xs i = x at *
          generalize ex ys i = y at *
          obtain ⟨b1, b2⟩ := B1
          obtain ⟨b3, b4⟩ := B2
          by_cases e : x = y
          · subst e
            rw [if_pos rfl] at hst
            have HK2 : Hid (lexL xs ys = lexZ (ex xs) (ex ys) i) := hid (by rw [HK.out, hst])
            clear hst
            have H1 := hid L1
            have H2 := hid L2
            clear L1 L2
            have hz2 : ((x : Int) != x) = false := by simp
            go_wp2_with (first
              | (go_at_call 29; (with_reducible refine (H1.out).mono ?_); rintro e w' ⟨rfl, rfl⟩)
              | (go_at_call 29; (with_reducible refine (H2.out).mono ?_); rintro e w' ⟨rfl, rfl⟩))
            exact ⟨⟨i, by omega, rfl, HK2⟩, by simp [intOf]⟩
          · rw [if_neg e] at hst
            have HK2 : Hid (lexL xs ys = cmpZ x y) := hid (by rw [HK.out, hst])
            clear hst
            have H1 := hid L1
            have H2 := hid L2
            clear L1 L2
            have C := hid (fun W => sign_any x y (x - y) W rfl)
            have hz2 : ((x : Int) != y) = true := by simpa using e
            clear e
            go_wp2_with (first
              | (go_at_call 29; (with_reducible refine (H1.out).mono ?_); rintro e w' ⟨rfl, rfl⟩)
              | (go_at_call 29; (with_reducible refine (H2.out).mono ?_); rintro e w' ⟨rfl, rfl⟩)
              | (go_at_call 64; (with_reducible refine (C.out _).mono ?_); rintro e w' ⟨rfl, rfl⟩))
            go_ret
            rw [HK2.out]
            exact ⟨rfl, rfl⟩
        · obtain rfl : k = 0 := by omega
          go_wp2
          go_ret
          rw [HK.out]
          exact ⟨rfl, rfl⟩
    · rw [show ordZ o xs ys = cmpZ (degZ xs) (degZ ys) from if_pos ⟨ho, hd⟩]
      subst ho
      have C := hid (fun W => sign_any (degZ xs) (degZ ys) (degZ xs - degZ ys) W rfl)
      generalize cmpZ (degZ xs) (degZ ys) = z at *
      have hz2 : ((degZ xs : Int) != degZ ys) = true := by simpa using hd
      clear hd
      generalize degZ xs = dx at *
      generalize degZ ys = dy at *
      go_enter Try.func43, Try.ntmps43
      go_wp2_with (first
        | (go_at_call 27; (with_reducible refine (D1.out).mono ?_); rintro e w' ⟨rfl, rfl⟩)
        | (go_at_call 27; (with_reducible refine (D2.out).mono ?_); rintro e w' ⟨rfl, rfl⟩)
        | (go_at_call 64; (with_reducible refine (C.out _).mono ?_); rintro e w' ⟨rfl, rfl⟩))
      go_ret
      exact ⟨rfl, rfl⟩
  · rw [show ordZ o xs ys = lexL xs ys from if_neg (fun h => ho h.1)]
    have ho2 : ((o : Int) == 1) = false := by simpa using ho
    go_enter Try.func43, Try.ntmps43
    go_wp2
    clear hqi
    go_loop [7] (fun i => ∃ k : Nat, k ≤ q ∧ i = .int .i64 ((k : Int) - 1) ∧ Hid (lexL xs ys = lexZ (ex xs) (ex ys) k)) (fun i => (intOf i + 1).toNat)
    case atStart => exact ⟨q, Nat.le_refl _, rfl, HLL⟩
    case round =>
      obtain ⟨k, hk, rfl, HK⟩ := hrel
      by_cases h0 : 0 < k
      · obtain ⟨i, rfl⟩ : ∃ i, k = i + 1 := ⟨k - 1, by omega⟩
        have L1 := R1.out i
        have L2 := R2.out i
        have B1 := XB.out i
        have B2 := YB.out i
        have hst : lexZ (ex xs) (ex ys) (i + 1) = if ex xs i = ex ys i then lexZ (ex xs) (ex ys) i else cmpZ (ex xs i) (ex ys i) := rfl
        have hi0 : (0 : Int) ≤ (i : Int) := by omega
        generalize ex xs i = x at *
        generalize ex ys i = y at *
        obtain ⟨b1, b2⟩ := B1
        obtain ⟨b3, b4⟩ := B2
        by_cases e : x = y
        · subst e
          rw [if_pos rfl] at hst
          have HK2 : Hid (lexL xs ys = lexZ (ex xs) (ex ys) i) := hid (by rw [HK.out, hst])
          clear hst
          have H1 := hid L1
          have H2 := hid L2
          clear L1 L2
          have hz2 : ((x : Int) != x) = false := by simp
          go_wp2_with (first
            | (go_at_call 29; (with_reducible refine (H1.out).mono ?_); rintro e w' ⟨rfl, rfl⟩)
            | (go_at_call 29; (with_reducible refine (H2.out).mono ?_); rintro e w' ⟨rfl, rfl⟩))
          exact ⟨⟨i, by omega, rfl, HK2⟩, by simp [intOf]⟩
        · rw [if_neg e] at hst
          have HK2 : Hid (lexL xs ys = cmpZ x y) := hid (by rw [HK.out, hst])
          clear hst
          have H1 := hid L1
          have H2 := hid L2
          clear L1 L2
          have C := hid (fun W => sign_any x y (x - y) W rfl)
          have hz2 : ((x : Int) != y) = true := by simpa using e
          clear e
          go_wp2_with (first
            | (go_at_call 29; (with_reducible refine (H1.out).mono ?_); rintro e w' ⟨rfl, rfl⟩)
            | (go_at_call 29; (with_reducible refine (H2.out).mono ?_); rintro e w' ⟨rfl, rfl⟩)
            | (go_at_call 64; (with_reducible refine (C.out _).mono ?_); rintro e w' ⟨rfl, rfl⟩))
          go_ret
          rw [HK2.out]
          exact ⟨rfl, rfl⟩
      · obtain rfl : k = 0 := by omega
        go_wp2
        go_ret
        rw [HK.out]
        exact ⟨rfl, rfl⟩
end Go.Proofs.Ytcmbdnkfihanmaa
