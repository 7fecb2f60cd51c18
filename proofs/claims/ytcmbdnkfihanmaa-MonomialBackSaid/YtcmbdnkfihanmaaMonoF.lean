/-
  Contracts of the specification of Divides, Coprime, Mul, Lcm, and of Same.
-/
import Derived.Test.YtcmbdnkfihanmaaProg
import Derived.Test.YtcmbdnkfihanmaaMonoE
set_option linter.unusedVariables false
set_option linter.unusedSimpArgs false
namespace Go.Proofs.Ytcmbdnkfihanmaa
open Go.RowKit Nm

/-- whether no variable occurs in both -/
theorem rcoprime_any (a b : Option Addr) (n m c d : Nat) (xs ys : List Int) (w : World) (h : ZRd w .i64 a n c xs) (k : ZRd w .i64 b m d ys) {B C : Int} (hx : RightZ B xs) (hy : RightZ C ys) (hB : 0 ≤ B) (hC : 0 ≤ C) :
    Calls Try.prog 41 #[.slice a n c, .slice b m d] w fun e w' => e = .returned (.bool (copB xs ys)) ∧ w = w' := by
  have HL := hid h.len
  have hcap := h.cap
  have hmax := h.max
  have R := hid (fun i => rexp_nat b m d ys w k i)
  have XX := hid (fun i => And.intro (hx.ex hB i).1 (hy.ex hC i).1)
  clear k
  go_enter Try.func41, Try.ntmps41
  go_wp2
  go_loop [5] (fun i => ∃ j : Nat, j ≤ n ∧ i = .int .i64 j ∧ Hid (∀ i, i < j → ex xs i = 0 ∨ ex ys i = 0)) (fun i => n - (intOf i).toNat)
  case atStart => exact ⟨0, Nat.zero_le _, rfl, hid fun i h => by omega⟩
  case round =>
    obtain ⟨j, hj, rfl, HK⟩ := hrel
    by_cases hlt : j < n
    · have hi : j < xs.length := by rw [HL.out]; exact hlt
      obtain ⟨b1, o1, rfl, hci⟩ := h.cel j hi
      rw [← ex_lt hi] at hci
      have RR := R.out j
      have XP := XX.out j
      have hji : (j : Int) < (n : Int) := by omega
      have step : (ex xs j = 0 ∨ ex ys j = 0) → Hid (∀ i, i < j + 1 → ex xs i = 0 ∨ ex ys i = 0) := fun hs => hid fun i hi' => by
        by_cases e : i = j
        · rw [e]; exact hs
        · exact HK.out i (by omega)
      have stop : ¬ (ex xs j = 0 ∨ ex ys j = 0) → Hid (copB xs ys = false) := fun hs => hid (by
        unfold copB; exact decide_eq_false fun hh => hs (hh j hi))
      generalize ex xs j = x at *
      generalize ex ys j = y at *
      have HR := hid RR
      clear RR hi h
      obtain ⟨hxp, hyp⟩ : 0 ≤ x ∧ 0 ≤ y := XP
      by_cases hx : x = 0
      · have ST := step (.inl hx)
        have hx2 : ¬ 0 < x := by omega
        clear step stop hx
        go_wp2
        exact ⟨⟨j + 1, by omega, rfl, ST⟩, by simp [intOf]; omega⟩
      · have hx2 : 0 < x := by omega
        by_cases hy : y = 0
        · have ST := step (.inr hy)
          have hy2 : ¬ 0 < y := by omega
          clear step stop hx hy
          go_wp2_with (go_at_call 29; (with_reducible refine (HR.out).mono ?_); rintro e w' ⟨rfl, rfl⟩)
          exact ⟨⟨j + 1, by omega, rfl, ST⟩, by simp [intOf]; omega⟩
        · have ST := stop (fun h => h.elim hx hy)
          have hy2 : 0 < y := by omega
          clear step stop hx hy
          go_wp2_with (go_at_call 29; (with_reducible refine (HR.out).mono ?_); rintro e w' ⟨rfl, rfl⟩)
          go_ret
          rw [ST.out]
          exact ⟨rfl, rfl⟩
    · obtain rfl : j = n := by omega
      go_wp2
      go_ret
      have : copB xs ys = true := by
        unfold copB; rw [decide_eq_true_iff]; intro i hi; exact HK.out i (by rw [← HL.out]; exact hi)
      rw [this]
      exact ⟨rfl, rfl⟩
/-- whether no exponent of xs is greater -/
theorem rdivides_any (a b : Option Addr) (n m c d : Nat) (xs ys : List Int) (w : World) (h : ZRd w .i64 a n c xs) (k : ZRd w .i64 b m d ys) :
    Calls Try.prog 39 #[.slice a n c, .slice b m d] w fun e w' => e = .returned (.bool (dvdB xs ys)) ∧ w.grownBy w' none := by
  have HL := hid h.len
  have hcap := h.cap
  have hmax := h.max
  have R := hid (fun (wr : World) (hg : w.grownBy wr none) i => rexp_nat b m d ys wr (k.keep hg) i)
  clear k
  go_enter Try.func39, Try.ntmps39
  go_wp2
  go_loopw [5] (fun i wr => ∃ j : Nat, j ≤ n ∧ i = .int .i64 j ∧ w.grownBy wr none ∧ Hid (∀ i, i < j → ex xs i ≤ ex ys i)) (fun i _ => n - (intOf i).toNat)
  case atStart => exact ⟨0, Nat.zero_le _, rfl, grown_refl _ _, hid fun i h => by omega⟩
  case round =>
    obtain ⟨j, hj, rfl, hgr, HK⟩ := hrel
    by_cases hlt : j < n
    · have hi : j < xs.length := by rw [HL.out]; exact hlt
      obtain ⟨b1, o1, rfl, hci0⟩ := h.cel j hi
      have hci := hgr.cell hci0 (by simp)
      rw [← ex_lt hi] at hci
      clear hci0
      have RR := fun nq => R.out (wr.drewN nq) (gdN hgr nq) j
      have hji : (j : Int) < (n : Int) := by omega
      have step : (ex xs j ≤ ex ys j) → Hid (∀ i, i < j + 1 → ex xs i ≤ ex ys i) := fun hs => hid fun i hi' => by
        by_cases e : i = j
        · rw [e]; exact hs
        · exact HK.out i (by omega)
      have stop : ¬ (ex xs j ≤ ex ys j) → Hid (dvdB xs ys = false) := fun hs => hid (by
        unfold dvdB; exact decide_eq_false fun hh => hs (hh j hi))
      generalize ex xs j = x at *
      generalize ex ys j = y at *
      have HR := hid RR
      clear RR hi h
      by_cases hg : x ≤ y
      · have ST := step hg
        have hg2 : ¬ y < x := by omega
        clear step stop hg
        go_wp2
        go_quiet ((go_at_call 29; exact quiet_same (HR.out _)))
        go_wp2
        exact ⟨⟨j + 1, by omega, rfl, gdN hgr _, ST⟩, by simp [intOf]; omega⟩
      · have ST := stop hg
        have hg2 : y < x := by omega
        clear step stop hg
        go_wp2
        go_quiet ((go_at_call 29; exact quiet_same (HR.out _)))
        go_wp2
        go_ret
        rw [ST.out]
        exact ⟨rfl, gdN hgr _⟩
    · obtain rfl : j = n := by omega
      go_wp2
      go_ret
      have : dvdB xs ys = true := by
        unfold dvdB; rw [decide_eq_true_iff]; intro i hi; exact HK.out i (by rw [← HL.out]; exact hi)
      rw [this]
      exact ⟨rfl, hgr⟩
/-- whether two monomials are equal -/
theorem sameM_any (a b : Option Addr) (n m c d : Nat) (xs ys : List Int) (w : World) (h : ZRd w .i64 a n c xs) (k : ZRd w .i64 b m d ys) :
    Calls Try.prog 23 #[.slice a n c, .slice b m d] w fun e w' => e = .returned (.bool (decide (xs = ys))) ∧ w.grownBy w' none := by
  have HL := hid h.len
  have KL := hid k.len
  have hcap := h.cap
  have hmax := h.max
  have kcap := k.cap
  have kmax := k.max
  by_cases hnm : n = m
  · subst hnm
    have hne : (((n : Int) != (n : Int)) = false) := by simp
    go_enter Try.func23, Try.ntmps23
    go_wp2
    go_loopw [5] (fun i wr => ∃ j : Nat, j ≤ n ∧ i = .int .i64 j ∧ w.grownBy wr none ∧ Hid (∀ i (h1 : i < xs.length) (h2 : i < ys.length), i < j → xs[i] = ys[i])) (fun i _ => n - (intOf i).toNat)
    case atStart => exact ⟨0, Nat.zero_le _, rfl, grown_refl _ _, hid fun i _ _ h => by omega⟩
    case round =>
      obtain ⟨j, hj, rfl, hgr, HK⟩ := hrel
      by_cases hlt : j < n
      · have hi : j < xs.length := by rw [HL.out]; exact hlt
        have hk : j < ys.length := by rw [KL.out]; exact hlt
        obtain ⟨b1, o1, rfl, hci0⟩ := h.cel j hi
        have hci := hgr.cell hci0 (by simp)
        obtain ⟨b2, o2, rfl, hck0⟩ := k.cel j hk
        have hck := hgr.cell hck0 (by simp)
        have hji : (j : Int) < (n : Int) := by omega
        obtain ⟨x, hx⟩ : ∃ x, x = xs[j] := ⟨_, rfl⟩
        obtain ⟨y, hy⟩ : ∃ y, y = ys[j] := ⟨_, rfl⟩
        rw [← hx] at hci
        rw [← hy] at hck
        have HX := hid hx
        have HY := hid hy
        clear hx hy hci0 hck0 h k
        by_cases hg : x = y
        · have ST : Hid (∀ i (h1 : i < xs.length) (h2 : i < ys.length), i < j + 1 → xs[i] = ys[i]) := hid fun i h1 h2 h3 => by
            by_cases e : i = j
            · subst e; rw [← HX.out, ← HY.out]; exact hg
            · exact HK.out i h1 h2 (by omega)
          subst hg
          have hxx : (((x : Int) != (x : Int)) = false) := by simp
          go_wp2
          go_quiet (fail)
          go_wp2
          exact ⟨⟨j + 1, by omega, rfl, gdN hgr _, ST⟩, by simp [intOf]; omega⟩
        · have ST : Hid (decide (xs = ys) = false) := hid (by
            refine decide_eq_false fun e => hg ?_
            rw [HX.out, HY.out]; subst e; rfl)
          have hxx : (((x : Int) != (y : Int)) = true) := by simpa using hg
          clear hg
          go_wp2
          go_quiet (fail)
          go_wp2
          go_ret
          rw [ST.out]
          exact ⟨rfl, gdN hgr _⟩
      · obtain rfl : j = n := by omega
        go_wp2
        go_ret
        have : xs = ys := List.ext_getElem (by rw [HL.out, KL.out]) fun i h1 h2 => HK.out i h1 h2 (by rw [← HL.out]; exact h1)
        rw [decide_eq_true this]
        exact ⟨rfl, hgr⟩
  · have hne : (((n : Int) != (m : Int)) = true) := by simp; omega
    rw [decide_eq_false (fun (e : xs = ys) => hnm (by rw [← HL.out, ← KL.out, e]))]
    clear hnm
    go_enter Try.func23, Try.ntmps23
    go_wp2
    go_ret
    exact ⟨rfl, grown_refl _ _⟩
set_option maxHeartbeats 1000000 in
theorem rmul_any (a b : Option Addr) (n m c d : Nat) (xs ys : List Int) (w : World) (h : ZRd w .i64 a n c xs) (k : ZRd w .i64 b m d ys) {B C : Int} (hx : RightZ B xs) (hy : RightZ C ys) (hB : 0 ≤ B ∧ B ≤ 1099511627776) (hC : 0 ≤ C ∧ C ≤ 1099511627776) :
    Calls Try.prog 35 #[.slice a n c, .slice b m d] w (ZRes w (combZ (· + ·) xs ys)) := by
  have HL := hid h.len
  have KL := hid k.len
  have hcap := h.cap
  have hmax := h.max
  have kcap := k.cap
  have kmax := k.max
  have hn : n ≤ 64 := by rw [← HL.out]; exact hx.len
  have hm : m ≤ 64 := by rw [← KL.out]; exact hy.len
  have XB := hid (fun i => hx.room hB i)
  have YB := hid (fun i => hy.room hC i)
  have R1 := hid (fun (wr : World) (hg : w.grownBy wr none) i => rexp_nat a n c xs wr (h.keep hg) i)
  have R2 := hid (fun (wr : World) (hg : w.grownBy wr none) i => rexp_nat b m d ys wr (k.keep hg) i)
  obtain ⟨q, hq⟩ : ∃ q, q = max n m := ⟨_, rfl⟩
  have hqb : q ≤ 64 := by omega
  have hnq : n ≤ q := by omega
  have hmq : m ≤ q := by omega
  have hlow : ∀ i, i < q → i < n ∨ i < m := by omega
  have HQ := hid hq
  have HLOW := hid hlow
  clear hq hx hy hlow h k
  go_enter Try.func35, Try.ntmps35
  go_wp2
  go_loopw [5, 6] (fun s i wr => ∃ (j : Nat) (p : Option Addr) (cc : Nat) (zs : List Int), j ≤ q ∧ i = .int .i64 j ∧ s = .slice p j cc ∧ ZOwn wr w.heap.size 3 .i64 p j cc zs ∧ w.grownBy wr none ∧
      Hid (zs = (combZ (· + ·) xs ys).take j)) (fun _ i _ => q - (intOf i).toNat)
  case atStart => exact ⟨0, none, 0, [], Nat.zero_le _, rfl, rfl, ZOwn.nil _ _ _ _, grown_refl _ _, hid rfl⟩
  case round =>
    obtain ⟨j, p, cc, zs, hj, rfl, rfl, ho, hgr, HZ⟩ := hrel
    by_cases hlt : j < q
    · have L1 := R1.out wr hgr j
      have L2 := R2.out wr hgr j
      have B1 := XB.out j
      have B2 := YB.out j
      have ST : Hid (zs ++ [(· + ·) (ex xs j) (ex ys j)] = (combZ (· + ·) xs ys).take (j + 1)) := hid (by
        have hl : j < (combZ (· + ·) xs ys).length := by rw [combZ_length, HL.out, KL.out, ← HQ.out]; exact hlt
        rw [List.take_succ_eq_append_getElem hl, HZ.out]
        congr 2
        simp [combZ])
      have hcase : ((j : Int) < (n : Int)) ∨ (¬ ((j : Int) < (n : Int)) ∧ (j : Int) < (m : Int)) := by
        have := HLOW.out j hlt
        omega
      generalize ex xs j = x at *
      generalize ex ys j = y at *
      have H1 := hid L1
      have H2 := hid L2
      clear L1 L2
      obtain ⟨b1, b2⟩ := B1
      obtain ⟨b3, b4⟩ := B2
      have hok : w.heap.size ≤ wr.heap.size := hgr.size
      rcases hcase with t1 | ⟨t1, t2⟩
      all_goals
        go_wp2_with (first
          | (go_at_call 29; (with_reducible refine (H1.out).mono ?_); rintro e w' ⟨rfl, rfl⟩)
          | (go_at_call 29; (with_reducible refine (H2.out).mono ?_); rintro e w' ⟨rfl, rfl⟩)
          | (with_reducible refine wz_append _ rfl (.tmp 19) (.tmp 27) 35 rfl 3 .i64 8 Try.underlying35 infoInt w.heap.size _ _ _ zs rfl (ho.alloc _) _ 1 1 [x + y] rfl (zone_rd _ _ _ _ _ rfl) (by omega) (by omega) w (grown_trans hgr (World.grownBy_alloc _ _ _)) (Nat.le_refl _) (by simp; omega) ?_; intro p2 c2 w2 ho2 hg2))
        exact ⟨⟨j + 1, _, _, _, by omega, rfl, rfl, ho2, hg2, hid ST.out⟩, by simp [intOf]; omega⟩
    · obtain rfl : j = q := by omega
      have t1 : ¬ ((j : Int) < (n : Int)) := by omega
      have t2 : ¬ ((j : Int) < (m : Int)) := by omega
      have e : zs = combZ (· + ·) xs ys := by
        rw [HZ.out, List.take_of_length_le (by rw [combZ_length, HL.out, KL.out, ← HQ.out]; exact Nat.le_refl _)]
      have e2 : (combZ (· + ·) xs ys).length = j := by rw [combZ_length, HL.out, KL.out, ← HQ.out]
      have ho' := ho.rd
      rw [e] at ho'
      have HO := hid ho'
      have H2 := hid e2
      clear e e2 ho'
      go_wp2
      go_ret
      exact ⟨p, cc, by rw [H2.out]; rfl, by rw [H2.out]; exact HO.out, hgr⟩
set_option maxHeartbeats 1000000 in
theorem rlcm_any (a b : Option Addr) (n m c d : Nat) (xs ys : List Int) (w : World) (h : ZRd w .i64 a n c xs) (k : ZRd w .i64 b m d ys) {B C : Int} (hx : RightZ B xs) (hy : RightZ C ys) (hB : 0 ≤ B ∧ B ≤ 1099511627776) (hC : 0 ≤ C ∧ C ≤ 1099511627776) :
    Calls Try.prog 37 #[.slice a n c, .slice b m d] w (ZRes w (combZ max xs ys)) := by
  have HL := hid h.len
  have KL := hid k.len
  have hcap := h.cap
  have hmax := h.max
  have kcap := k.cap
  have kmax := k.max
  have hn : n ≤ 64 := by rw [← HL.out]; exact hx.len
  have hm : m ≤ 64 := by rw [← KL.out]; exact hy.len
  have XB := hid (fun i => hx.room hB i)
  have YB := hid (fun i => hy.room hC i)
  have R1 := hid (fun (wr : World) (hg : w.grownBy wr none) i => rexp_nat a n c xs wr (h.keep hg) i)
  have R2 := hid (fun (wr : World) (hg : w.grownBy wr none) i => rexp_nat b m d ys wr (k.keep hg) i)
  obtain ⟨q, hq⟩ : ∃ q, q = max n m := ⟨_, rfl⟩
  have hqb : q ≤ 64 := by omega
  have hnq : n ≤ q := by omega
  have hmq : m ≤ q := by omega
  have hlow : ∀ i, i < q → i < n ∨ i < m := by omega
  have HQ := hid hq
  have HLOW := hid hlow
  clear hq hx hy hlow h k
  go_enter Try.func37, Try.ntmps37
  go_wp2
  go_loopw [5, 6] (fun s i wr => ∃ (j : Nat) (p : Option Addr) (cc : Nat) (zs : List Int), j ≤ q ∧ i = .int .i64 j ∧ s = .slice p j cc ∧ ZOwn wr w.heap.size 3 .i64 p j cc zs ∧ w.grownBy wr none ∧
      Hid (zs = (combZ max xs ys).take j)) (fun _ i _ => q - (intOf i).toNat)
  case atStart => exact ⟨0, none, 0, [], Nat.zero_le _, rfl, rfl, ZOwn.nil _ _ _ _, grown_refl _ _, hid rfl⟩
  case round =>
    obtain ⟨j, p, cc, zs, hj, rfl, rfl, ho, hgr, HZ⟩ := hrel
    by_cases hlt : j < q
    · have L1 := R1.out wr hgr j
      have L2 := R2.out wr hgr j
      have B1 := XB.out j
      have B2 := YB.out j
      have ST : Hid (zs ++ [max (ex xs j) (ex ys j)] = (combZ max xs ys).take (j + 1)) := hid (by
        have hl : j < (combZ max xs ys).length := by rw [combZ_length, HL.out, KL.out, ← HQ.out]; exact hlt
        rw [List.take_succ_eq_append_getElem hl, HZ.out]
        congr 2
        simp [combZ])
      have hcase : ((j : Int) < (n : Int)) ∨ (¬ ((j : Int) < (n : Int)) ∧ (j : Int) < (m : Int)) := by
        have := HLOW.out j hlt
        omega
      generalize ex xs j = x at *
      generalize ex ys j = y at *
      have H1 := hid L1
      have H2 := hid L2
      clear L1 L2
      obtain ⟨b1, b2⟩ := B1
      obtain ⟨b3, b4⟩ := B2
      have hok : w.heap.size ≤ wr.heap.size := hgr.size
      rcases hcase with t1 | ⟨t1, t2⟩
      all_goals
        go_wp2_with (first
          | (go_at_call 29; (with_reducible refine (H1.out).mono ?_); rintro e w' ⟨rfl, rfl⟩)
          | (go_at_call 29; (with_reducible refine (H2.out).mono ?_); rintro e w' ⟨rfl, rfl⟩)
          | (with_reducible refine wz_append _ rfl (.tmp 19) (.tmp 27) 35 rfl 3 .i64 8 Try.underlying35 infoInt w.heap.size _ _ _ zs rfl (ho.alloc _) _ 1 1 [max x y] rfl (zone_rd _ _ _ _ _ rfl) (by omega) (by omega) w (grown_trans hgr (World.grownBy_alloc _ _ _)) (Nat.le_refl _) (by simp; omega) ?_; intro p2 c2 w2 ho2 hg2))
        exact ⟨⟨j + 1, _, _, _, by omega, rfl, rfl, ho2, hg2, hid ST.out⟩, by simp [intOf]; omega⟩
    · obtain rfl : j = q := by omega
      have t1 : ¬ ((j : Int) < (n : Int)) := by omega
      have t2 : ¬ ((j : Int) < (m : Int)) := by omega
      have e : zs = combZ max xs ys := by
        rw [HZ.out, List.take_of_length_le (by rw [combZ_length, HL.out, KL.out, ← HQ.out]; exact Nat.le_refl _)]
      have e2 : (combZ max xs ys).length = j := by rw [combZ_length, HL.out, KL.out, ← HQ.out]
      have ho' := ho.rd
      rw [e] at ho'
      have HO := hid ho'
      have H2 := hid e2
      clear e e2 ho'
      go_wp2
      go_ret
      exact ⟨p, cc, by rw [H2.out]; rfl, by rw [H2.out]; exact HO.out, hgr⟩
end Go.Proofs.Ytcmbdnkfihanmaa
